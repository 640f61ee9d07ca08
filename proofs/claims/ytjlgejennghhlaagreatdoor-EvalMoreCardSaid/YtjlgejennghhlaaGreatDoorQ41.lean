import Derived.Deep.MidRow
import Derived.Deep.RegionHeld3
import Derived.Lib.OwnBridge
import Derived.Deep.RegionLaw
import Derived.Deep.AppendLies
import Derived.Test.YtjlgejennghhlaaGreatDoorQ01
import Derived.Test.YtjlgejennghhlaaGreatDoorQ26
import Derived.Test.YtjlgejennghhlaaGreatDoorQ35
import Derived.Test.YtjlgejennghhlaaGreatDoorQ40
import Derived.Test.YtjlgejennghhlaaGreatDoorQ13
import Derived.Test.YtjlgejennghhlaaGreatDoorQ30
import Derived.Test.YtjlgejennghhlaaGreatDoorQ20
import Derived.Test.YtjlgejennghhlaaGreatDoorQ21
import Derived.Test.YtjlgejennghhlaaGreatDoorQ28
set_option linter.unusedSimpArgs false
set_option linter.unusedVariables false
set_option linter.unusedSectionVars false
set_option maxRecDepth 1000000
set_option maxHeartbeats 16000000
namespace Go.Proofs.YtjlgejennghhlaaGreatDoor
open Go.RowKit
theorem Qmk (b o n c h D I:Nat) (cs:List Cl) (x y:ByteArray) (j:Jb) (w:World) (K:j.cols=.slice (some ⟨h,D,none⟩) 2 I) (J:j.op=⟨#[109,97,120]⟩) (F:h<w.heap.size) (M:w.cell? ⟨h,D,none⟩=some (.string x)) (N:w.cell? ⟨h,D+1,none⟩=some (.string y))
 (V:cs.length=n) (H:n<=100) (O:b<w.heap.size) (U:Qau w b o cs):
 Calls Tryz.prog 129 #[.agg j.cells,.slice (some ⟨b,o,none⟩) n c] w fun e w'=>e=.returned (QbK (QaM cs x y))/\Below w.heap.size w w':=Mx.group_any b o n c h D I cs x y j w K J F M N V H O U
end Go.Proofs.YtjlgejennghhlaaGreatDoor
namespace Go.Proofs.YtjlgejennghhlaaGreatDoor.Pl
open Go.RowKit
open Fw (By FJob Flw ba)
def Qcb (j:FJob) (vo vi vc:Value):Jb:=⟨(j.at_:Nat),j.code,vo,vi,vc,ba j.op,(ba j.left.1,j.left.2.1,j.left.2.2.1,ba j.left.2.2.2),(ba j.right.1,j.right.2.1,j.right.2.2.1,ba j.right.2.2.2),j.retry⟩
theorem QjU (j:FJob) (D h y:Value):(Qcb j D h y).cells=(Fw.jobV j D h y).toArray:=rfl
abbrev jb0 (j:FJob):Jb:=Qcb j (.slice none 0 0) (.slice none 0 0) (.slice none 0 0)
noncomputable def Qef (j:FJob) (ins:List Cs):Int:=
 if j.code=1\/j.code=9 then QaV (ins.getD 0 []) (jb0 j)
 else if j.code=2 then QbV (ins.getD 0 []) (jb0 j) (j.cols.getD 0 [])
 else if j.code=3\/j.code=4 then QaQ (ins.getD 0 []) (j.cols.map ba)
 else if j.code=5 then Qdz (ins.getD 0 []) (ins.getD 1 [])
 else if j.code=7 then QaW (ins.getD 0 []) (ins.getD 1 []) (ba (j.cols.getD 0 [])) (ba (j.cols.getD 1 []))
 else if j.code=8 then QaM (ins.getD 0 []) (ba (j.cols.getD 0 [])) (ba (j.cols.getD 1 []))
 else 0
noncomputable def Qbg (j:FJob) (ins:List Cs):Int:=if j.outs.length=(if j.code=9 then 2 else 1) then Qef j ins else 1
noncomputable def Qa9 (j:FJob) (ins:List Cs):Cs:=
 if j.code=3\/j.code=8 then Qbc (Qaj (ins.getD 0 []) (j.cols.map ba)) (ins.getD 0 [])
 else if j.code=7 then Qb7 (ins.getD 0 []) (ins.getD 1 []) ((Qaq (ins.getD 1 []) (j.cols.getD 1 [])).getD 0)
 else ins.getD 0 []
def QeA (c:Cs):Prop:=1<=c.length/\c.length<=6/\∀x∈c,x.1.size<=1000
def Qgg (w:World) (u:Value) (cs:Cs):Prop:=∃b o c,u=.slice (some ⟨b,o,none⟩) cs.length c/\cs.length<=c/\b<w.heap.size/\Qau w b o cs
theorem Qgg.below {w w':World} {u:Value} {cs:Cs} (h:Qgg w u cs) (D:Below w.heap.size w w'):Qgg w' u cs:=by
 obtain⟨b,o,c,I,F,y,H⟩:=h;exact⟨b,o,c,I,F,Nat.lt_of_lt_of_le y D.size,H.below D y⟩
theorem Qgg.of {w:World} {B:Nat} {u:Value} {cs:Cs} (h:w.ownsRow B 64 2 u cs.length (Qak cs)) (D:QeA cs):Qgg w u cs:=by
 obtain⟨a,c,I,H,-,y⟩:=Qbl h (fun x hx=>Nat.le_trans (D.2.2 x hx) (by decide));rcases y with y|⟨b,o,rfl,J,F⟩
 ·rw[y] at D;exact absurd D.1 (by decide)
 ·exact⟨b,o,c,I,H,J,F⟩
theorem QcW {w:World} {v:Value} {xs:List By} (h:Fw.StrsR w v xs) (y:xs.length<=1000):Qcl w v (xs.map ba):=by
 rcases h with ⟨rfl,rfl⟩|⟨b,o,c,rfl,D,H,F⟩
 ·exact⟨none,0,rfl,Nat.le_refl _,by decide,Or.inl rfl⟩
 ·refine⟨some ⟨b,o,none⟩,c,by rw[List.length_map],by rw[List.length_map];exact D,by rw[List.length_map];exact Nat.le_trans y (by decide),Or.inr ⟨b,o,rfl,H,fun j hj=>?_⟩⟩;rw[List.length_map] at hj;rw[F j hj,List.getElem_map]
theorem strs_one {w:World} {v:Value} {a:By} (h:Fw.StrsR w v [a]):∃b o c,v=.slice (some ⟨b,o,none⟩) 1 c/\b<w.heap.size/\w.cell? ⟨b,o,none⟩=some (.string (ba a)):=by
 rcases h with ⟨-,h⟩|⟨b,o,c,rfl,F,D,y⟩
 ·cases h
 ·exact⟨b,o,c,rfl,D,by simpa using y 0 (by simp)⟩
theorem strs_two {w:World} {v:Value} {a D:By} (h:Fw.StrsR w v [a,D]):∃b o c,v=.slice (some ⟨b,o,none⟩) 2 c/\b<w.heap.size/\w.cell? ⟨b,o,none⟩=some (.string (ba a))/\w.cell? ⟨b,o+1,none⟩=some (.string (ba D)):=by
 rcases h with ⟨-,h⟩|⟨b,o,c,rfl,H,F,y⟩
 ·cases h
 ·exact⟨b,o,c,rfl,F,by simpa using y 0 (by simp),by simpa using y 1 (by simp)⟩
theorem grp_list {cs:Cs} {x y:ByteArray} (h:QaM cs x y=0):QaQ cs [x,y]=0:=by
 unfold QaM at h;split at h
 ·rename_i p q F I
  have H:p≠q:=by
   intro e;subst e
   by_cases hk:QbM cs p≠1
   ·rw[if_pos hk] at h;cases h
   ·rw[if_neg hk,if_pos rfl] at h;cases h
  have D:¬x.data.toList=y.data.toList:=by
   intro e;rw[e] at F;exact H (Option.some.inj (F.symm.trans I))
  simp[QaQ,QhF,F,I,inS,D];exact fun e=>D (by rw[e])
 ·cases h
theorem QmQ {cs:Cs} {D:List ByteArray} (h:QaQ cs D=0) (H:QeA cs):QeA (Qbc (Qaj cs D) cs):=by
 obtain⟨I,J,y⟩:=QcB h;refine⟨by simp[Qbc,Qaj];omega,by simp[Qbc,Qaj];omega,fun x hx=>?_⟩;obtain⟨k,F,rfl⟩:=List.mem_map.1 hx;have:=QcC y k F;rw[List.getElem?_eq_getElem this];exact H.2.2 _ (List.getElem_mem this)
theorem QmR {cs D:Cs} {x y:ByteArray} (h:QaW cs D x y=0) (J:QeA cs) (I:QeA D):∃q,Qaq D y.data.toList=some q/\QeA (Qb7 cs D q):=by
 unfold QaW at h;split at h
 ·rename_i p q M K
  refine⟨q,K,?_⟩;have H:(Qb7 cs D q).length<=6:=by
   by_cases hk:QbM cs p≠QbM D q
   ·rw[if_pos hk] at h;cases h
   ·rw[if_neg hk] at h
    by_cases ht:Qd1 (Qb7 cs D q)=true
    ·rw[if_pos ht] at h;cases h
    ·rw[if_neg ht] at h
     by_cases H:6<(Qb7 cs D q).length
     ·rw[if_pos H] at h;cases h
     ·omega
  refine⟨?_,H,fun z F=>?_⟩
  ·have:=J.1;simp[Qb7];omega
  ·simp only[Qb7,List.mem_append] at F;rcases F with (F|F)|F
   ·exact J.2.2 z F
   ·exact I.2.2 z (List.mem_of_mem_take F)
   ·exact I.2.2 z (List.mem_of_mem_drop F)
 ·cases h
theorem Qov {j:FJob} {ins:List Cs} (J:Fw.JobOK j) (K:ins.length=j.ins.length) (M:∀c∈ins,QeA c) (h:Qbg j ins=0):QeA (Qa9 j ins):=by
 obtain⟨Z,f7,U,H,N⟩:=J.fm;have y:Qef j ins=0:=by
  unfold Qbg at h
  by_cases ho:j.outs.length=(if j.code=9 then 2 else 1)
  ·rwa[if_pos ho] at h
  ·rw[if_neg ho] at h;cases h
 have D:QeA (ins.getD 0 []):=by
  have:0<ins.length:=by
   rw[K]
   by_cases e5:j.code=5
   ·obtain⟨a,b,e⟩:=H (Or.inl e5);rw[e];simp
   ·by_cases e7:j.code=7
    ·obtain⟨a,b,e⟩:=H (Or.inr e7);rw[e];simp
    ·obtain⟨a,e⟩:=N e5 e7;rw[e];simp
  rw[List.getD_eq_getElem?_getD,List.getElem?_eq_getElem this];exact M _ (List.getElem_mem this)
 unfold Qef at y;unfold Qa9;rcases J.code with e|e|e|e|e|e|e|e|e
 ·simp[e] at y⊢;simpa using D
 ·simp[e] at y⊢;simpa using D
 ·simp only[e] at y⊢;simp at y⊢;exact QmQ y (by simpa using D)
 ·simp[e] at y⊢;simpa using D
 ·simp[e] at y⊢;simpa using D
 ·simp[e] at y⊢;simpa using D
 ·have V:QeA (ins.getD 1 []):=by
   obtain⟨a,b,F⟩:=H (Or.inr e);have:1<ins.length:=by rw[K,F];simp
   rw[List.getD_eq_getElem?_getD,List.getElem?_eq_getElem this];exact M _ (List.getElem_mem this)
  rw[if_neg (by omega),if_neg (by omega),if_neg (by omega),if_neg (by omega),if_pos e] at y;rw[if_neg (by omega),if_pos e];obtain⟨q,O,I⟩:=QmR y D V;have hq':Qaq (ins.getD 1 []) (j.cols.getD 1 [])=some q:=O;rw[hq'];exact I
 ·rw[if_neg (by omega),if_neg (by omega),if_neg (by omega),if_neg (by omega),if_neg (by omega),if_pos e] at y;rw[if_pos (Or.inr e)];obtain⟨a,b,F,-⟩:=U e;rw[F] at y⊢;exact QmQ (grp_list y) D
 ·simp[e] at y⊢;simpa using D
end Go.Proofs.YtjlgejennghhlaaGreatDoor.Pl
namespace Go.Proofs.YtjlgejennghhlaaGreatDoor.Pl
open Go.RowKit
open Fw (By FJob Flw ba)
def QfY (w:World) (hb ho:Nat) (ins:List Cs):Prop:=hb<w.heap.size/\∀i (h:i<ins.length),∃u,w.cell? ⟨hb,ho+i,none⟩=some u/\Qgg w u ins[i]
theorem QfY.below {w w':World} {F D:Nat} {ins:List Cs} (h:QfY w F D ins) (y:Below w.heap.size w w'):QfY w' F D ins:=
 ⟨Nat.lt_of_lt_of_le h.1 y.size,fun i hi=>by
  obtain⟨u,I,H⟩:=h.2 i hi;exact⟨u,cK y h.1 I,H.below y⟩⟩
theorem QcI {ins:List Cs} (h:0<ins.length):ins.getD 0 []=ins[0]:=by rw[List.getD_eq_getElem?_getD,List.getElem?_eq_getElem h];rfl
theorem Qow {ins:List Cs} (h:1<ins.length):ins.getD 1 []=ins[1]:=by rw[List.getD_eq_getElem?_getD,List.getElem?_eq_getElem h];rfl
theorem ba_list (l:By):(ba l).data.toList=l:=rfl
theorem QmS {x:By} (h:x∈Fw.ariL):inS Qbr x=true:=by
 simp[Fw.ariL] at h;rcases h with rfl|rfl|rfl<;>rfl
theorem Qh9 (j:FJob) (K M vc:Value) (ins:List Cs) (Z ho F:Nat) (w:World) (hj:Fw.JobOK j) (hc:Fw.StrsR w vc j.cols) (O:QfY w Z ho ins) (am:∀c∈ins,QeA c) (hl:ins.length=j.ins.length):
 Calls Tryz.prog 96 #[.agg (Qcb j K M vc).cells,.slice (some ⟨Z,ho,none⟩) ins.length F] w fun e w'=>e=.returned (QbK (Qef j ins))/\Below w.heap.size w w':=by
 obtain⟨f2,f7,f8,fi,fo⟩:=hj.fm;have D:0<ins.length:=by
  rw[hl]
  by_cases e5:j.code=5
  ·obtain⟨a,b,e⟩:=fi (Or.inl e5);rw[e];simp
  ·by_cases e7:j.code=7
   ·obtain⟨a,b,e⟩:=fi (Or.inr e7);rw[e];simp
   ·obtain⟨a,e⟩:=fo e5 e7;rw[e];simp
 obtain⟨u0,h0,b0,o0,c0,rfl,aE,J,I⟩:=O.2 0 D;have k0:=am _ (List.getElem_mem D);have hr:=hj.r;have aD:=hj.l;have sz:∀{x:By},x.length<=1000->(ba x).size<=maxLen:=fun{x} h=>Nat.le_trans h (by decide)
 rw[Nat.add_zero] at h0;unfold Qef;rcases hj.code with e|e|e|e|e|e|e|e|e
 ·rw[if_pos (Or.inl e),QcI D];exact Qem Z ho ins.length F b0 o0 _ c0 ins[0] (Qcb j K M vc) w (Or.inl e) D O.1 h0 rfl (by have:=k0.2.1;omega) J I (sz hr.2.1)
 ·rw[if_neg (by omega),if_pos e,QcI D];obtain⟨n,e1,e2⟩:=f2 e;rw[e1] at hc⊢;obtain⟨N,U,cc,rfl,H,s0⟩:=strs_one hc;exact QfM Z ho ins.length F b0 o0 _ c0 N U cc ins[0] (ba n) (Qcb j K M _) w e D O.1 h0 rfl H s0 (QmS e2) rfl (by have:=k0.2.1;omega) J I (sz aD.2.1) (sz hr.2.1)
 ·rw[if_neg (by omega),if_neg (by omega),if_pos (Or.inl e),QcI D];exact Qgs Z ho ins.length F b0 o0 _ c0 ins[0] (j.cols.map ba) (Qcb j K M vc) w e D O.1 h0 (QcW hc hj.cl) rfl (by have:=k0.2.1;omega) J I
 ·rw[if_neg (by omega),if_neg (by omega),if_pos (Or.inr e),QcI D];exact Qgx Z ho ins.length F b0 o0 _ c0 ins[0] (j.cols.map ba) (Qcb j K M vc) w e D O.1 h0 (QcW hc hj.cl) rfl (by have:=k0.2.1;omega) J I
 ·obtain⟨a,b,ei⟩:=fi (Or.inl e);have h2:ins.length=2:=by rw[hl,ei];rfl
  have V:1<ins.length:=by omega
  obtain⟨u1,h1,b1,o1,c1,rfl,ag,ao,ap⟩:=O.2 1 V;have k1:=am _ (List.getElem_mem V);rw[if_neg (by omega),if_neg (by omega),if_neg (by omega),if_pos e,QcI D,Qow V,h2];exact QdH Z ho F b0 o0 c0 b1 o1 c1 ins[0] ins[1] (Qcb j K M vc) w e O.1 h0 h1 (by have:=k0.2.1;omega) (by have:=k1.2.1;omega) J ao I ap
 ·rw[if_neg (by omega),if_neg (by omega),if_neg (by omega),if_neg (by omega),if_neg (by omega),if_neg (by omega),QeH];exact QgA none Z ho ins.length F _ (Qcb j K M vc) w e D O.1 h0
 ·obtain⟨a,b,ei⟩:=fi (Or.inr e);have h2:ins.length=2:=by rw[hl,ei];rfl
  have V:1<ins.length:=by omega
  obtain⟨u1,h1,b1,o1,c1,rfl,ag,ao,ap⟩:=O.2 1 V;have k1:=am _ (List.getElem_mem V);obtain⟨x,y,ec⟩:=f7 e;rw[ec] at hc⊢;obtain⟨N,U,cc,rfl,H,s0,s1⟩:=strs_two hc;rw[if_neg (by omega),if_neg (by omega),if_neg (by omega),if_neg (by omega),if_pos e,QcI D,Qow V,h2];refine Qgy Z ho F b0 o0 _ c0 b1 o1 _ c1 (Qcb j K M _) _ w e O.1 h0 h1 (fun W hW=>?_);exact Qjp b0 o0 _ c0 b1 o1 _ c1 N U cc ins[0] ins[1] (ba x) (ba y) (Qcb j K M _) W rfl (by have:=hW.size;omega) (cK hW H s0) (cK hW H s1) rfl k0.1 (by have:=k0.2.1;omega) (by have:=hW.size;omega) (I.below hW J) rfl (by have:=k1.2.1;omega) ag (by have:=hW.size;omega) (ap.below hW ao) (fun z hz=>by
   rcases List.mem_append.1 hz with hz|hz
   ·exact Nat.le_trans (k0.2.2 z hz) (by decide)
   ·exact Nat.le_trans (k1.2.2 z hz) (by decide))
 ·obtain⟨x,y,ec,eo⟩:=f8 e;rw[ec] at hc⊢;obtain⟨N,U,cc,rfl,H,s0,s1⟩:=strs_two hc;rw[if_neg (by omega),if_neg (by omega),if_neg (by omega),if_neg (by omega),if_neg (by omega),if_pos e,QcI D];refine QfK Z ho ins.length F b0 o0 _ c0 (Qcb j K M _) _ w e D O.1 h0 (fun W hW=>?_);rcases eo with eo|eo
  ·exact group_any b0 o0 _ c0 N U cc ins[0] (ba x) (ba y) (Qcb j K M _) W rfl (show ba j.op=_ by rw[eo];rfl) (by have:=hW.size;omega) (cK hW H s0) (cK hW H s1) rfl (by have:=k0.2.1;omega) (by have:=hW.size;omega) (I.below hW J)
  ·exact Qmk b0 o0 _ c0 N U cc ins[0] (ba x) (ba y) (Qcb j K M _) W rfl (show ba j.op=_ by rw[eo];rfl) (by have:=hW.size;omega) (cK hW H s0) (cK hW H s1) rfl (by have:=k0.2.1;omega) (by have:=hW.size;omega) (I.below hW J)
 ·rw[if_pos (Or.inr e),QcI D];exact Qem Z ho ins.length F b0 o0 _ c0 ins[0] (Qcb j K M vc) w (Or.inr e) D O.1 h0 rfl (by have:=k0.2.1;omega) J I (sz hr.2.1)
theorem QiY (j:FJob) (U Z V:Value) (ins:List Cs) (K M F:Nat) (w:World) (hj:Fw.JobOK j) (hc:Fw.StrsR w V j.cols) (N:QfY w K M ins) (ag:∀c∈ins,QeA c) (hl:ins.length=j.ins.length) (he:Qef j ins=0):
 Calls Tryz.prog 97 #[.agg (Qcb j U Z V).cells,.slice (some ⟨K,M,none⟩) ins.length F] w fun e w'=>∃u,e=.returned u/\w'.ownsRow w.heap.size 64 2 u (Qa9 j ins).length (Qak (Qa9 j ins))/\Below w.heap.size w w':=by
 obtain⟨f2,f7,f8,fi,fo⟩:=hj.fm;have h:0<ins.length:=by
  rw[hl]
  by_cases e5:j.code=5
  ·obtain⟨a,b,e⟩:=fi (Or.inl e5);rw[e];simp
  ·by_cases e7:j.code=7
   ·obtain⟨a,b,e⟩:=fi (Or.inr e7);rw[e];simp
   ·obtain⟨a,e⟩:=fo e5 e7;rw[e];simp
 obtain⟨u0,O,b0,o0,c0,rfl,ao,J,I⟩:=N.2 0 h;have k0:=ag _ (List.getElem_mem h);rw[Nat.add_zero] at O;unfold Qef at he;unfold Qa9;have D:∀hcode,_:=fun hcode=>QbC K M ins.length F b0 o0 _ c0 ins[0] (Qcb j U Z V) w hcode h N.1 O rfl (by have:=k0.2.1;omega) J I
 rcases hj.code with e|e|e|e|e|e|e|e|e
 ·rw[if_neg (by omega),if_neg (by omega),QcI h];exact D (Or.inl e)
 ·rw[if_neg (by omega),if_neg (by omega),QcI h];exact D (Or.inr (Or.inr (Or.inl e)))
 ·rw[if_neg (by omega),if_neg (by omega),if_pos (Or.inl e),QcI h] at he;rw[if_pos (Or.inl e),QcI h];exact QeK K M ins.length F b0 o0 _ c0 ins[0] (j.cols.map ba) (Qcb j U Z V) w e h N.1 O (QcW hc hj.cl) he rfl (by have:=k0.2.1;omega) J I
 ·rw[if_neg (by omega),if_neg (by omega),QcI h];exact D (Or.inr (Or.inr (Or.inr (Or.inl e))))
 ·rw[if_neg (by omega),if_neg (by omega),QcI h];exact D (Or.inr (Or.inr (Or.inr (Or.inr (Or.inl e)))))
 ·rw[if_neg (by omega),if_neg (by omega),QcI h];exact D (Or.inr (Or.inr (Or.inr (Or.inr (Or.inr e)))))
 ·obtain⟨a,b,ei⟩:=fi (Or.inr e);have h2:ins.length=2:=by rw[hl,ei];rfl
  have H:1<ins.length:=by omega
  obtain⟨u1,h1,b1,o1,c1,rfl,ac,al,am⟩:=N.2 1 H;have k1:=ag _ (List.getElem_mem H);obtain⟨x,y,ec⟩:=f7 e;rw[ec] at hc he⊢;obtain⟨cb,co,cc,rfl,ai,s0,s1⟩:=strs_two hc;rw[if_neg (by omega),if_neg (by omega),if_neg (by omega),if_neg (by omega),if_pos e,QcI h,Qow H] at he;rw[if_neg (by omega),if_pos e,QcI h,Qow H,h2];obtain⟨q,hq,-⟩:=QmR he k0 k1;have hq':Qaq ins[1] ([x,y].getD 1 [])=some q:=hq;rw[hq'];exact QeN K M F b0 o0 c0 b1 o1 c1 cb co cc q ins[0] ins[1] (ba y) (Qcb j U Z _) w e rfl ai s1 N.1 O h1 hq (by have:=k0.2.1;omega) J I (by have:=k1.2.1;omega) ac al am
 ·obtain⟨x,y,ec,eo⟩:=f8 e;rw[ec] at he;rw[if_neg (by omega),if_neg (by omega),if_neg (by omega),if_neg (by omega),if_neg (by omega),if_pos e,QcI h] at he;rw[if_pos (Or.inr e),QcI h];exact QcQ K M ins.length F b0 o0 _ c0 ins[0] (j.cols.map ba) (Qcb j U Z V) w e h N.1 O (QcW hc hj.cl) (by rw[ec];exact grp_list he) rfl (by have:=k0.2.1;omega) J I
 ·rw[if_neg (by omega),if_neg (by omega),QcI h];exact D (Or.inr (Or.inl e))
theorem strs_slice {w:World} {v:Value} {xs:List By} (h:Fw.StrsR w v xs):∃a c,v=.slice a xs.length c:=by
 rcases h with ⟨rfl,rfl⟩|⟨b,o,c,rfl,-⟩
 ·exact⟨none,0,rfl⟩
 ·exact⟨_,c,rfl⟩
theorem QfZ {j:FJob} (y:Fw.JobOK j):Qa1 j.code=((j.ins.length:Int),((if j.code=9 then 2 else 1:Nat):Int))/\j.ins.length≠0:=by
 obtain⟨H,I,J,F,D⟩:=y.fm;unfold Qa1;rcases y.code with e|e|e|e|e|e|e|e|e
 all_goals first
  |(obtain⟨a,b,h⟩:=F (by omega);rw[h,e];exact⟨rfl,by simp⟩)
  |(obtain⟨a,h⟩:=D (by omega) (by omega);rw[h,e];exact⟨rfl,by simp⟩)
def ColsR (j:FJob) (ins:List Cs) (w:World) (e:Ending) (w':World):Prop:=Below w.heap.size w w'/\
 ((Qbg j ins≠0/\e=.returned (.tuple #[.slice none 0 0,.iface 37 (.int .i64 (Qbg j ins))]))\/
  (Qbg j ins=0/\∃v us,e=.returned (.tuple #[v,.nilIface])/\w'.ownsRow w.heap.size 51 1 v j.outs.length us/\Qbj w' w.heap.size us (Qa9 j ins)))
theorem Qox (j:FJob) (F I H:Value) (ins:List Cs) (y D h:Nat) (w:World) (V:Fw.JobOK j) (ad:Fw.StrsR w F j.outs) (hc:Fw.StrsR w H j.cols) (hH:QfY w y D ins) (N:∀c∈ins,QeA c) (O:ins.length=j.ins.length):
 Calls Tryz.prog 59 #[.agg (Fw.jobV j F I H).toArray,.slice (some ⟨y,D,none⟩) ins.length h] w fun e w'=>ColsR j ins w e w':=by
 rw[<-QjU];obtain⟨oa,Z,K⟩:=strs_slice ad;obtain⟨U,ag⟩:=QfZ V
 by_cases hm:j.outs.length=(if j.code=9 then 2 else 1)
 ·have J:Qbg j ins=Qef j ins:=by unfold Qbg;rw[if_pos hm]
  rw[<-hm,<-O] at U
  by_cases h0:Qef j ins=0
  ·refine(cols_ok (some ⟨y,D,none⟩) oa h Z (Qcb j F I H) ins.length j.outs.length (Qa9 j ins) w K U (by omega) (by rw[hm];split<;>omega) (fun W hW=>?_) (fun W hW=>?_)).mono ?_
   ·have:=Qh9 j F I H ins y D h W V (hc.below hW) (hH.below hW) N O;rw[h0,QeH] at this;exact this
   ·exact QiY j F I H ins y D h W V (hc.below hW) (hH.below hW) N O h0
   ·rintro e w' ⟨v,us,rfl,h1,h2,M⟩;exact⟨M,Or.inr ⟨by rw[J];exact h0,v,us,rfl,h1,h2⟩⟩
  ·refine(Qdm (some ⟨y,D,none⟩) oa h Z (Qcb j F I H) ins.length j.outs.length (Qef j ins) w K U (by omega) h0 (fun W hW=>Qh9 j F I H ins y D h W V (hc.below hW) (hH.below hW) N O)).mono ?_;rintro e w' ⟨rfl,M⟩;exact⟨M,Or.inl ⟨by rw[J];exact h0,by rw[J,QaS h0]⟩⟩
 ·have J:Qbg j ins=1:=by unfold Qbg;rw[if_neg hm]
  refine(QnG (some ⟨y,D,none⟩) oa ins.length h j.outs.length Z (Qcb j F I H) j.ins.length _ w K U (Or.inr (Or.inr hm))).mono ?_;rintro e w' ⟨rfl,M⟩;exact⟨M,Or.inl ⟨by rw[J];decide,by rw[J,QaS (by decide)]⟩⟩
end Go.Proofs.YtjlgejennghhlaaGreatDoor.Pl
namespace Go.Proofs.YtjlgejennghhlaaGreatDoor.Pl
open Go.RowKit
open Fw (By FJob Flw ba)
def AtV (w:World) (v:Value) (n:Int):Prop:=∃p pl,v=.iface 100 (.pointer (some ⟨p,0,none⟩))/\w.cell? ⟨p,0,none⟩=some (.int .i64 n)/\w.cell? ⟨p,1,none⟩=some (.int .i64 pl)
theorem AtV.below {w w':World} {v:Value} {n:Int} (h:AtV w v n) (F:Below w.heap.size w w'):AtV w' v n:=by
 obtain⟨p,H,I,y,D⟩:=h;exact⟨p,H,I,cK F (World.block_lt_of_cell? w _ y) y,cK F (World.block_lt_of_cell? w _ D) D⟩
theorem Qia (n h:Int) (w:World):Calls Tryz.prog 51 #[.int .i64 n,.int .i64 h] w fun e w'=>∃p,e=.returned (.iface 100 (.pointer (some ⟨p,0,none⟩)))/\AtV w' (.iface 100 (.pointer (some ⟨p,0,none⟩))) n/\Below w.heap.size w w':=by
 go_enter Tryz.func51,Tryz.ntmps51;go_wp2;go_ret;exact⟨_,rfl,⟨_,h,rfl,World.cell?_alloc_at _ _ _ _ rfl,World.cell?_alloc_at _ _ _ _ rfl⟩,Qaa _ _⟩
theorem QpN (a b:By):((ba a).toList==(ba b).toList)=(a==b):=by
 rw[ByteArray.toList_eq,ByteArray.toList_eq]
theorem row_slice {w:World} {v:Value} {n z:Nat} {P:Nat->World->Nat->Nat->Prop} (h:Fw.RowR w v n z P):∃a c,v=.slice a n c:=by
 rcases h with ⟨rfl,rfl⟩|⟨b,c,rfl,-⟩
 ·exact⟨_,_,rfl⟩
 ·exact⟨_,_,rfl⟩
theorem Qib (y D:Value) (h:Option Addr) (n c k:Nat) (w:World) (F:k<n):Calls Tryz.prog 91 #[.agg #[y,.slice h n c,D],.int .i64 (k:Nat)] w fun e w'=>e=.returned (.bool true)/\Below w.heap.size w w':=by
 have I:decide ((0:Int)<=(k:Int))=true:=by simp
 have H:decide ((k:Int)<(n:Int))=true:=by simp;omega
 go_enter Tryz.func91,Tryz.ntmps91;go_wp2;go_ret;exact⟨rfl,Qaa _ _⟩
def foundI (r:Int) (b:Bool):Prop:=-1<=r/\r<=1000/\(decide (0<=r))=b
theorem any_step {α:Type} {p:α->Bool} {l:List α} {k:Nat} (h:k<l.length) (D:(l.take k).any p=false) (y:p l[k]=false):(l.take (k+1)).any p=false:=by
 rw[List.take_succ_eq_append_getElem h,List.any_append,D];simp[y]
theorem any_hit {α:Type} {p:α->Bool} {l:List α} {k:Nat} (h:k<l.length) (y:p l[k]=true):l.any p=true:=by
 rw[List.any_eq_true];exact⟨_,List.getElem_mem h,y⟩
theorem QkS (at_:Int) (x y:ByteArray) (D:Value) (C:Nat) (r:Bool) (w:World) (h:w.cell? ⟨C,0,none⟩=some (.string y)) (I:(x.toList==y.toList)=r):Calls Tryz.prog 124 #[.agg #[.int .i64 at_,.string x,D],.pointer (some ⟨C,0,none⟩)] w fun e w'=>e=.returned (.bool r)/\Below w.heap.size w w':=by
 have F:=World.block_lt_of_cell? w _ h;have H:(w.alloc (.cells #[.int .i64 at_,.string x,D] 57)).cell? ⟨C,0,none⟩=some (.string y):=by rw[World.cell?_alloc_lt _ _ ⟨C,0,none⟩ F];exact h
 clear h;go_enter Tryz.func124,Tryz.ntmps124;go_wp2;go_ret;exact⟨rfl,Qaa _ _⟩
theorem QmT (vi:Value) (l:List Fw.FIn) (nm:By) (C:Nat) (w:World) (h:Fw.RowR w vi l.length 3 (Fw.InAt l)) (ae:l.length<=100) (hC:w.cell? ⟨C,0,none⟩=some (.string (ba nm))):
 Calls Tryz.prog 69 #[vi,.func (.func 124) #[] #[.pointer (some ⟨C,0,none⟩)]] w fun e w'=>∃r:Int,e=.returned (.int .i64 r)/\foundI r (l.any fun i=>i.name==nm)/\Below w.heap.size w w':=by
 obtain⟨ia,ic,rfl⟩:=row_slice h;obtain⟨n,V⟩:∃n,l.length=n:=⟨_,rfl⟩;have HN:=Hk V;have HR:=Hk h;have HC:=Hk hC;rw[V] at ae⊢;clear V h hC;go_enter Tryz.func69,Tryz.ntmps69;go_wp2;go_loopw [8] (fun i wr=>∃k:Nat,k<=n/\i=.int .i64 k/\(l.take k).any (fun i=>i.name==nm)=false/\Below w.heap.size w wr) (fun i _=>n-(intOf i).toNat)
 case atStart=>exact⟨0,Nat.zero_le _,rfl,rfl,Below.refl _ _⟩
 case round=>
  obtain⟨k,hk,rfl,N,y⟩:=hrel;have HA:=Hk N;clear N
  by_cases hlt:k<n
  ·have D:k<l.length:=by have:=HN.out;omega
   rcases HR.out with ⟨-,J⟩|⟨b,c',J,al,O,I⟩
   ·rw[J] at D;exact absurd D (by simp)
   simp only[Value.slice.injEq] at J;obtain⟨rfl,-,rfl⟩:=J;obtain⟨a,v,ha,d0,d1,Z,-⟩:=I k D;have J:=cK y O d0;have e1:=cK y O d1;have e2:=cK y O Z;obtain⟨_,M⟩:=List.getElem?_eq_some_iff.1 ha;have hl:=World.block_lt_of_cell? w _ HC.out;have U:=Hk (QkS (a.at_:Nat) (ba a.name) (ba nm) v C (a.name==nm) wr (cK y hl HC.out) (QpN _ _));have HX:Hid (∀p,(a.name==nm)=p->(fun i:Fw.FIn=>i.name==nm) l[k]=p):=Hk (fun p hp=>by rw[M];exact hp);generalize ba a.name=x at*;have H:=Hk y;clear y I d0 d1 Z ha M
   cases hp:(a.name==nm)
   all_goals have HP:=Hk (HX.out _ hp)
   all_goals rw[hp] at U
   all_goals clear hp HX
   ·go_wp2_with (go_at_call 124;refine U.out.mono ?_;rintro e w2 ⟨rfl,F⟩;have K:=Hk (H.out.trans (F.mono H.out.size));clear F);go_roundw
    case rel=>exact⟨k+1,by omega,by go_num,any_step D HA.out HP.out,K.out⟩
    case measure=>simp[intOf];omega
   ·go_wp2_with (go_at_call 124;refine U.out.mono ?_;rintro e w2 ⟨rfl,F⟩;have K:=Hk (H.out.trans (F.mono H.out.size));clear F);go_ret;exact⟨k,rfl,⟨by omega,by omega,by rw[any_hit D HP.out];simp⟩,K.out⟩
  ·go_wp2;go_ret;exact⟨-1,rfl,⟨by omega,by omega,by have:=HA.out;rw[List.take_of_length_le (by have:=HN.out;omega)] at this;rw[this];rfl⟩,y⟩
theorem QmU (y:Value) (l:List Fw.FIn) (nm:By) (C:Nat) (w:World) (h:Fw.RowR w y l.length 3 (Fw.InAt l)) (H:l.length<=100) (D:w.cell? ⟨C,0,none⟩=some (.string (ba nm))):
 Calls Tryz.prog 33 #[y,.func (.func 124) #[] #[.pointer (some ⟨C,0,none⟩)]] w fun e w'=>e=.returned (.bool (l.any fun i=>i.name==nm))/\Below w.heap.size w w':=by
 have J:=Hk (QmT y l nm C w h H D);clear h D;go_enter Tryz.func33,Tryz.ntmps33;go_wp2_with (go_at_call 69;refine J.out.mono ?_;rintro e K ⟨r,rfl,I,F⟩);go_ret;exact⟨ret_bool I.2.2,F⟩
theorem given_any (f:Flw) (F J I:Value) (nm:By) (w:World) (h:Fw.FlowRd w f F J I) (V:f.ins.length<=16):
 Calls Tryz.prog 93 #[.agg #[F,J,I],.string (ba nm)] w fun e w'=>e=.returned (.bool (Qhj f nm))/\Below w.heap.size w w':=by
 obtain⟨K,y⟩:∃x,x=(w.alloc (.cells #[F,J,I] 29)).alloc (.cells #[.string (ba nm)] 9):=⟨_,rfl⟩;have D:Below w.heap.size w K:=by rw[y];exact(Qaa _ _).alloc (by simp) _
 have H:=QmU F f.ins nm (w.heap.size+1) K ((h.below D).ins) (by omega) (by rw[y];exact World.cell?_alloc_at _ _ _ _ (by simp));have U:=mkF;rw[y] at H;have HI:=Hk H;rw[y] at D;have O:=Hk D;have N:Hid ((f.ins.any fun i=>i.name==nm)=Qhj f nm):=Hk rfl;obtain⟨ia,ic,rfl⟩:=row_slice h.ins;generalize ba nm=x at*;clear H D h y;go_enter Tryz.func93,Tryz.ntmps93;go_wp2_with (first|(go_at_call 33;refine HI.out.mono ?_;rintro e Z ⟨rfl,M⟩));go_ret;exact⟨by rw[N.out];rfl,bel_then O.out M⟩
theorem QeP {w:World} {f:Flw} {V J U:Value} (h:Fw.FlowRd w f V J U) {k:Nat} (H:k<f.jobs.length):∃b c,J=.slice (some ⟨b,0,none⟩) f.jobs.length c/\f.jobs.length<=c/\b<w.heap.size/\∃y F D,w.rangeAt b (k*15) (Fw.jobV f.jobs[k] y F D)/\Fw.StrsR w y f.jobs[k].outs/\Fw.StrsR w F f.jobs[k].ins/\Fw.StrsR w D f.jobs[k].cols:=by
 rcases h.jobs with ⟨-,e⟩|⟨b,c,e,hc,hb,hx⟩
 ·rw[e] at H;exact absurd H (by simp)
 ·obtain⟨a,y,F,D,K,O,M,Z,N⟩:=hx k H;obtain⟨_,I⟩:=List.getElem?_eq_some_iff.1 K;subst I;exact⟨b,c,e,hc,hb,y,F,D,O,M,Z,N⟩
theorem Qqx (l:List By) (n:By):inS (l.map ba) n=l.contains n:=by
 unfold inS;rw[List.any_map,List.contains_eq_any_beq]
 congr 1
 funext x
 show((ba x).data.toList==n)=(n==x)
 rw[Bool.eq_iff_iff,beq_iff_eq,beq_iff_eq];exact⟨fun h=>h.symm,fun h=>h.symm⟩
theorem Qoy {w:World} {v:Value} {l:List By} (h:Fw.StrsR w v l) (hl:l.length<=100000) (x:ByteArray):
 Calls Tryz.prog 71 #[v,.string x] w fun e w'=>(∃i:Int,e=.returned (.int .i64 i)/\(0<=i↔inS (l.map ba) x.data.toList=true)/\-1<=i)/\w'=w:=by
 obtain⟨va,vc,rfl⟩:=strs_slice h;obtain⟨n,M⟩:∃n,l.length=n:=⟨_,rfl⟩;have U:=Hk M;have HS:=Hk h;rw[M] at hl⊢;clear M h;go_enter Tryz.func71,Tryz.ntmps71;go_wp2
 go_loop [8] (fun i=>∃k:Nat,k<=n/\i=.int .i64 k/\((l.map ba).take k).any (fun s=>s.data.toList==x.data.toList)=false) (fun i=>n-(intOf i).toNat)
 case atStart=>exact⟨0,Nat.zero_le _,rfl,rfl⟩
 case round=>
  obtain⟨k,hk,rfl,J⟩:=hrel;have O:=Hk J;clear J
  by_cases hlt:k<n
  ·have D:k<l.length:=by have:=U.out;omega
   have I:k<(l.map ba).length:=by rw[List.length_map];exact D
   rcases HS.out with ⟨-,H⟩|⟨b,o,c,H,aa,hb,V⟩
   ·rw[H] at D;exact absurd D (by simp)
   simp only[Value.slice.injEq] at H;obtain⟨rfl,-,rfl⟩:=H;have Z:=V k D;have F:Hid (∀q,(x.toList==(ba l[k]).toList)=q->(fun s:ByteArray=>s.data.toList==x.data.toList) (l.map ba)[k]=q):=Hk (fun q hq=>by
    rw[List.getElem_map,<-hq,ByteArray.toList_eq,ByteArray.toList_eq,Bool.eq_iff_iff,beq_iff_eq,beq_iff_eq];exact⟨fun z=>z.symm,fun z=>z.symm⟩)
   obtain⟨y,K⟩:∃y,Fw.ba l[k]=y:=⟨_,rfl⟩;rw[show ba l[k]=y from K] at F;rw[K] at Z;clear K V
   cases hp:(x.toList==y.toList)
   ·have N:=Hk (F.out _ hp);clear F;go_wp2
    go_round
    case rel=>exact⟨k+1,by omega,by go_num,any_step I O.out N.out⟩
    case measure=>simp[intOf];omega
   ·have N:=Hk (F.out _ hp);clear F;go_wp2;go_ret;exact⟨⟨(k:Int),rfl,⟨fun _=>any_hit I N.out,fun _=>by omega⟩,by omega⟩,rfl⟩
  ·go_wp2;go_ret;refine⟨⟨-1,rfl,⟨fun h=>absurd h (by omega),fun h=>?_⟩,by omega⟩,rfl⟩;have:=O.out;rw[List.take_of_length_le (by rw[List.length_map];have:=U.out;omega)] at this;exact absurd (this.symm.trans h) (by decide)
theorem Qe8 {w:World} {v:Value} {l:List By} (h:Fw.StrsR w v l) (F:l.length<=100000) (n:By):Calls Tryz.prog 37 #[v,.string (ba n)] w fun e w'=>e=.returned (.bool (l.contains n))/\w'=w:=by
 have HI:=Hk (Qoy h F (ba n));rw[<-Qqx];obtain⟨r,y⟩:∃r,inS (l.map ba) n=r:=⟨_,rfl⟩;rw[show inS (l.map ba) (ba n).data.toList=r from y] at HI;rw[y];generalize ba n=x at*;clear h y;go_enter Tryz.func37,Tryz.ntmps37;go_wp2_with (go_at_call 71;refine HI.out.mono ?_;rintro e I ⟨⟨i,rfl,D,H⟩,rfl⟩)
 all_goals go_ret
 all_goals refine⟨ret_bool ?_,rfl⟩
 all_goals
  rw[Bool.eq_iff_iff,<-D]
  try simp
end Go.Proofs.YtjlgejennghhlaaGreatDoor.Pl
namespace Go.Proofs.YtjlgejennghhlaaGreatDoor.Pl
open Go.RowKit
open Fw (By FJob Flw ba)
def Qcc (w:World) (F:Nat) (vi vj vo:Value):Prop:=w.cell? ⟨F,0,none⟩=some vi/\w.cell? ⟨F,1,none⟩=some vj/\w.cell? ⟨F,2,none⟩=some vo
theorem Qcc.lt {w:World} {F:Nat} {D y H:Value} (h:Qcc w F D y H):F<w.heap.size:=World.block_lt_of_cell? w _ h.1
theorem Qcc.below {w w':World} {F:Nat} {H D I:Value} (h:Qcc w F H D I) (y:Below w.heap.size w w'):Qcc w' F H D I:=
 ⟨cK y h.lt h.1,cK y h.lt h.2.1,cK y h.lt h.2.2⟩
theorem Qcc.new (w:World) (y h D:Value) (T:TypeId):Qcc (w.alloc (.cells #[y,h,D] T)) w.heap.size y h D:=
 ⟨World.cell?_alloc_at _ _ _ _ rfl,World.cell?_alloc_at _ _ _ _ rfl,World.cell?_alloc_at _ _ _ _ rfl⟩
theorem cell_below {w w':World} {p:Addr} {v:Value} (h:w.cell? p=some v) (y:Below w.heap.size w w'):w'.cell? p=some v:=(y.cell (World.block_lt_of_cell? w _ h)).trans h
theorem QkT (f:Flw) (H vj D:Value) (F N k:Nat) (nm:By) (w:World) (h:Fw.FlowRd w f H vj D) (hf:Fw.FlwOK f) (hF:Qcc w F H vj D) (hN:w.cell? ⟨N,0,none⟩=some (.string (ba nm))) (J:k<f.jobs.length):
 Calls Tryz.prog 92 #[.int .i64 (k:Nat),.pointer (some ⟨F,0,none⟩),.pointer (some ⟨N,0,none⟩)] w fun e w'=>e=.returned (.bool (mkB f nm k))/\Below w.heap.size w w':=by
 obtain⟨b,c,rfl,al,hb,K,ai,ac,M,ho,hi,hc⟩:=QeP h J;have O:mkB f nm k=f.jobs[k].outs.contains nm:=by unfold mkB;rw[List.getElem?_eq_getElem J]
 have ab:=(hf.jobs _ (List.getElem_mem J)).ol;have HJ:Hid (∀V,Below w.heap.size w V->Calls Tryz.prog 91 #[.agg #[H,.slice (some ⟨b,0,none⟩) f.jobs.length c,D],.int .i64 (k:Nat)] V fun e w'=>e=.returned (.bool true)/\Below V.heap.size V w'):=Hk fun V _=>Qib H D _ _ c k V J
 have HC:Hid (∀V,Below w.heap.size w V->Calls Tryz.prog 37 #[K,.string (ba nm)] V fun e w'=>e=.returned (.bool (mkB f nm k))/\w'=V):=Hk fun V hV=>by
  rw[O];exact Qe8 (ho.below hV) (by omega) nm
 have d2:w.cell? ⟨b,k*15+2,none⟩=some K:=M 2 _ rfl;have Z:Hid (∀V,Below w.heap.size w V->Qcc V F H (.slice (some ⟨b,0,none⟩) f.jobs.length c) D/\V.cell? ⟨N,0,none⟩=some (.string (ba nm))/\V.cell? ⟨b,k*15+2,none⟩=some K):=Hk fun V hV=>⟨hF.below hV,cell_below hN hV,cell_below d2 hV⟩
 have G0:=Hk (Z.out w.drew (Below.refl _ w).drew);have y:Hid (Below w.heap.size w w.drew):=Hk (Below.refl _ w).drew;have au:(k:Int)<(f.jobs.length:Int):=by omega
 clear O M h ho hi hc d2 hF hN ab hf;generalize f.jobs.length=n at*;generalize mkB f nm k=r at*;generalize ba nm=x at*;go_enter Tryz.func92,Tryz.ntmps92;go_wp2;unfold Qcc at G0 Z
 go_region_held3 (fun V=>(V.cell? ⟨F,0,none⟩=some H/\V.cell? ⟨F,1,none⟩=some (.slice (some ⟨b,0,none⟩) n c)/\V.cell? ⟨F,2,none⟩=some D)/\V.cell? ⟨N,0,none⟩=some (.string x)/\V.cell? ⟨b,k*15+2,none⟩=some K) (first|exact G0.out|exact G1.out) (first|(go_at_call 91;refine(HJ.out _ y.out).mono ?_;rintro e1 w1 ⟨rfl,U⟩;have I:=Hk (y.out.trans (U.mono y.out.size));have G1:=Hk (Z.out w1 I.out);clear U)|(go_at_call 37;refine(HC.out _ (by first|exact I.out|exact y.out)).mono ?_;rintro e2 w2 ⟨rfl,rfl⟩))
 all_goals go_wp2
 all_goals go_ret
 all_goals exact⟨rfl,I.out⟩
def Qc6 (w:World) (v:Value) (l:List Nat):Prop:=(v=.slice none 0 0/\l=[])\/∃b o c,v=.slice (some ⟨b,o,none⟩) l.length c/\l.length<=c/\b<w.heap.size/\∀j (h:j<l.length),w.cell? ⟨b,o+j,none⟩=some (.int .i64 (l[j]:Nat))
theorem Qc6.below {w w':World} {v:Value} {l:List Nat} (h:Qc6 w v l) (D:Below w.heap.size w w'):Qc6 w' v l:=by
 rcases h with h|⟨b,o,c,I,F,y,H⟩
 ·exact Or.inl h
 ·exact Or.inr ⟨b,o,c,I,F,Nat.lt_of_lt_of_le y D.size,fun j hj=>(D.cell (p:=⟨b,o+j,none⟩) y).trans (H j hj)⟩
theorem QcJ {w:World} {v:Value} {l:List Nat} (h:Qc6 w v l):∃a c,v=.slice a l.length c:=by
 rcases h with ⟨rfl,rfl⟩|⟨b,o,c,rfl,-⟩
 ·exact⟨none,0,rfl⟩
 ·exact⟨_,c,rfl⟩
theorem QmV (f:Flw) (vi Z vo v:Value) (l:List Nat) (F N:Nat) (nm:By) (w:World) (h:Fw.FlowRd w f vi Z vo) (hf:Fw.FlwOK f) (hF:Qcc w F vi Z vo) (hN:w.cell? ⟨N,0,none⟩=some (.string (ba nm))) (hl:Qc6 w v l) (K:∀k∈l,k<f.jobs.length) (ai:l.length<=100):
 Calls Tryz.prog 54 #[v,.func (.func 92) #[] #[.pointer (some ⟨F,0,none⟩),.pointer (some ⟨N,0,none⟩)]] w fun e w'=>∃r:Int,e=.returned (.int .i64 r)/\foundI r (l.any (mkB f nm))/\Below w.heap.size w w':=by
 obtain⟨ia,ic,rfl⟩:=QcJ hl;obtain⟨n,hn⟩:∃n,l.length=n:=⟨_,rfl⟩;have HN:=Hk hn;have HL:=Hk hl;have HQ:Hid (∀V,Below w.heap.size w V->∀k,k<f.jobs.length->Calls Tryz.prog 92 #[.int .i64 (k:Nat),.pointer (some ⟨F,0,none⟩),.pointer (some ⟨N,0,none⟩)] V fun e w'=>e=.returned (.bool (mkB f nm k))/\Below V.heap.size V w'):=Hk fun V hV k hk=>QkT f vi Z vo F N k nm V (h.below hV) hf (hF.below hV) (cell_below hN hV) hk
 have af:=Hk K;rw[hn] at ai⊢;clear hn h hF hN hl hf K;go_enter Tryz.func54,Tryz.ntmps54;go_wp2;go_loopw [8] (fun i wr=>∃k:Nat,k<=n/\i=.int .i64 k/\(l.take k).any (mkB f nm)=false/\Below w.heap.size w wr) (fun i _=>n-(intOf i).toNat)
 case atStart=>exact⟨0,Nat.zero_le _,rfl,rfl,Below.refl _ _⟩
 case round=>
  obtain⟨k,hk,rfl,U,D⟩:=hrel;have HA:=Hk U;clear U
  by_cases K:k<n
  ·have y:k<l.length:=by have:=HN.out;omega
   rcases HL.out with ⟨-,O⟩|⟨b,o,c',O,ar,hb,J⟩
   ·rw[O] at y;exact absurd y (by simp)
   simp only[Value.slice.injEq] at O;obtain⟨rfl,-,rfl⟩:=O;have e1:=(D.cell (p:=⟨b,o+k,none⟩) hb).trans (J k y);have HC:=Hk (HQ.out wr D l[k] (af.out _ (List.getElem_mem y)));have I:=Hk D;clear D J
   cases hp:mkB f nm l[k]
   all_goals have HP:=Hk hp
   all_goals rw[hp] at HC
   all_goals clear hp
   ·go_wp2_with (go_at_call 92;refine HC.out.mono ?_;rintro e w2 ⟨rfl,H⟩;have M:=Hk (I.out.trans (H.mono I.out.size));clear H);go_roundw
    case rel=>exact⟨k+1,by omega,by go_num,any_step y HA.out HP.out,M.out⟩
    case measure=>simp[intOf];omega
   ·go_wp2_with (go_at_call 92;refine HC.out.mono ?_;rintro e w2 ⟨rfl,H⟩;have M:=Hk (I.out.trans (H.mono I.out.size));clear H);go_ret;exact⟨k,rfl,⟨by omega,by omega,by rw[any_hit y HP.out];simp⟩,M.out⟩
  ·go_wp2;go_ret;exact⟨-1,rfl,⟨by omega,by omega,by have:=HA.out;rw[List.take_of_length_le (by have:=HN.out;omega)] at this;rw[this];rfl⟩,D⟩
theorem QmW (f:Flw) (I J H v:Value) (l:List Nat) (F N:Nat) (nm:By) (w:World) (h:Fw.FlowRd w f I J H) (D:Fw.FlwOK f) (O:Qcc w F I J H) (U:w.cell? ⟨N,0,none⟩=some (.string (ba nm))) (M:Qc6 w v l) (y:∀k∈l,k<f.jobs.length) (V:l.length<=100):
 Calls Tryz.prog 94 #[v,.func (.func 92) #[] #[.pointer (some ⟨F,0,none⟩),.pointer (some ⟨N,0,none⟩)]] w fun e w'=>e=.returned (.bool (l.any (mkB f nm)))/\Below w.heap.size w w':=by
 have Z:=Hk (QmV f I J H v l F N nm w h D O U M y V);clear h U O M y;go_enter Tryz.func94,Tryz.ntmps94;go_wp2_with (go_at_call 54;refine Z.out.mono ?_;rintro e w2 ⟨r,rfl,D,K⟩);go_ret;exact⟨ret_bool D.2.2,K⟩
end Go.Proofs.YtjlgejennghhlaaGreatDoor.Pl
namespace Go.Proofs.YtjlgejennghhlaaGreatDoor.Pl
open Go.RowKit
open Fw (By FJob Flw ba)
theorem all_step {α:Type} {p:α->Bool} {l:List α} {k:Nat} (h:k<l.length) (D:(l.take k).all p=true) (y:p l[k]=true):(l.take (k+1)).all p=true:=by
 rw[List.take_succ_eq_append_getElem h,List.all_append,D];simp[y]
theorem Qoz {α:Type} {p:α->Bool} {l:List α} {k:Nat} (h:k<l.length) (y:p l[k]=false):l.all p=false:=by
 rw[List.all_eq_false];exact⟨_,List.getElem_mem h,by rw[y];decide⟩
theorem QmX (f:Flw) (I vj F v:Value) (l:List Nat) (k:Nat) (w:World) (h:Fw.FlowRd w f I vj F) (hf:Fw.FlwOK f) (hk:k<f.jobs.length) (hl:Qc6 w v l) (ak:∀k∈l,k<f.jobs.length) (aO:l.length<=100):
 Calls Tryz.prog 56 #[.agg #[I,vj,F],.int .i64 (k:Nat),v] w fun e w'=>e=.returned (.bool (QfV f k l))/\Below w.heap.size w w':=by
 obtain⟨b,c,rfl,aH,hb,ao,ai,ac,ay,ho,hi,hc⟩:=QeP h hk;have aE:QfV f k l=f.jobs[k].ins.all fun n=>Qhj f n||l.any (mkB f n):=by unfold QfV;rw[List.getElem?_eq_getElem hk]
 have aF:=(hf.jobs _ (List.getElem_mem hk)).il;obtain⟨D,aB⟩:∃x,w.alloc (.cells #[I,.slice (some ⟨b,0,none⟩) f.jobs.length c,F] 29)=x:=⟨_,rfl⟩;have M:Below w.heap.size w D:=by rw[<-aB];exact Qaa _ _
 have ap:Qcc D w.heap.size I (.slice (some ⟨b,0,none⟩) f.jobs.length c) F:=by rw[<-aB];exact Qcc.new _ _ _ _ _
 have O:=Hk (Ai M (Ai (h.below M) (Ai ap (hl.below M))));have HS:Hid (∀V,Below D.heap.size D V->V.cell? ⟨w.heap.size,0,none⟩=some I/\V.cell? ⟨w.heap.size,1,none⟩=some (.slice (some ⟨b,0,none⟩) f.jobs.length c)/\V.cell? ⟨w.heap.size,2,none⟩=some F):=Hk fun V hV=>ap.below hV
 have HJ:Hid (∀V,Calls Tryz.prog 91 #[.agg #[I,.slice (some ⟨b,0,none⟩) f.jobs.length c,F],.int .i64 (k:Nat)] V fun e w'=>e=.returned (.bool true)/\Below V.heap.size V w'):=Hk fun V=>Qib I F _ _ c k V hk
 have HI:=Hk (hi.below M);have az:w.cell? ⟨b,k*15+3,none⟩=some ai:=ay 3 _ rfl;have HD:Hid (∀V,Below D.heap.size D V->V.cell? ⟨b,k*15+3,none⟩=some ai):=Hk fun V hV=>cell_below (cell_below az M) hV
 obtain⟨na,nc,rfl⟩:=strs_slice hi;have HG:Hid (∀V,Below D.heap.size D V->∀nm,Calls Tryz.prog 93 #[.agg #[I,.slice (some ⟨b,0,none⟩) f.jobs.length c,F],.string (ba nm)] V fun e w'=>e=.returned (.bool (Qhj f nm))/\Below V.heap.size V w'):=Hk fun V hV nm=>given_any f I _ F nm V (O.out.2.1.below hV) hf.il
 have HM:Hid (∀V,Below D.heap.size D V->∀nm N,V.cell? ⟨N,0,none⟩=some (.string (ba nm))->Calls Tryz.prog 94 #[v,.func (.func 92) #[] #[.pointer (some ⟨w.heap.size,0,none⟩),.pointer (some ⟨N,0,none⟩)]] V fun e w'=>e=.returned (.bool (l.any (mkB f nm)))/\Below V.heap.size V w'):=Hk fun V hV nm N hN=>QmW f I _ F v l w.heap.size N nm V (O.out.2.1.below hV) hf (O.out.2.2.1.below hV) hN (O.out.2.2.2.below hV) ak aO
 have bh:=mkF;have HR:=Hk aE;obtain⟨va,vc,rfl⟩:=QcJ hl;have bg:(k:Int)<(f.jobs.length:Int):=by omega
 obtain⟨L,hL⟩:∃L,f.jobs[k].ins=L:=⟨_,rfl⟩;rw[hL] at HR HI HD aF;have aW:Hid (∀nm,Qhj f nm=Qhj f nm):=Hk fun _=>rfl
 clear aE h hf hl ak ay ho hi hc az ap hL aW;obtain⟨n,hn⟩:∃n,L.length=n:=⟨_,rfl⟩;have HN:=Hk hn;rw[hn] at aF HI HD;have K:=HS.out D (Below.refl _ _);have g1:=K.1;have g2:=K.2.1;have g3:=K.2.2;clear hn K;go_enter Tryz.func56,Tryz.ntmps56;go_wp2_with (first|(go_at_call 91;refine(HJ.out _).mono ?_;rintro e w2 ⟨rfl,ag⟩;have aR:=Hk ag;have d1:=HD.out w2 ag;have g4:=HS.out w2 ag;have g5:=g4.2.1;clear ag g4));clear g1 g2 g3 d1 g5;go_loopw [21] (fun i wr=>∃q:Nat,q<=n/\i=.int .i64 q/\(L.take q).all (fun n=>Qhj f n||l.any (mkB f n))=true/\Below D.heap.size D wr) (fun i _=>n-(intOf i).toNat)
 case atStart=>exact⟨0,Nat.zero_le _,rfl,rfl,aR.out⟩
 case round=>
  obtain⟨q,hq,rfl,aC,af⟩:=hrel;have HA:=Hk aC;clear aC
  by_cases ak:q<n
  ·have J:q<L.length:=by have:=HN.out;omega
   rcases HI.out with ⟨-,e0⟩|⟨nb,no,be,e0,aH,aS,ae⟩
   ·rw[e0] at J;exact absurd J (by simp)
   simp only[Value.slice.injEq] at e0;obtain⟨rfl,-,rfl⟩:=e0;have e1:=(af.cell (p:=⟨nb,no+q,none⟩) aS).trans (ae q J);obtain⟨nm,aj⟩:∃nm,L[q]=nm:=⟨_,rfl⟩;rw[aj] at e1;have H:Hid (∀r,(Qhj f nm||l.any (mkB f nm))=r->(fun n=>Qhj f n||l.any (mkB f n)) L[q]=r):=Hk (fun r hr=>by rw[aj];exact hr);obtain⟨w3,aD⟩:∃x,wr.alloc (.cells #[.string (ba nm)] 9)=x:=⟨_,rfl⟩;have U:Below D.heap.size D w3:=by rw[<-aD];exact bel_then af (Qaa _ _)
   have K:=HS.out w3 U;have g1:=K.1;have g2:=K.2.1;have g3:=K.2.2;have aA:w3.cell? ⟨wr.heap.size,0,none⟩=some (.string (ba nm)):=by rw[<-aD];exact World.cell?_alloc_at _ _ _ _ rfl
   have bf:=Hk aA;have ad:=Hk (HG.out w3 U nm);have am:=Hk U;have ab:Hid (∀V,Below w3.heap.size w3 V->Calls Tryz.prog 94 #[.slice va l.length vc,.func (.func 92) #[] #[.pointer (some ⟨w.heap.size,0,none⟩),.pointer (some ⟨wr.heap.size,0,none⟩)]] V fun e w'=>e=.returned (.bool (l.any (mkB f nm)))/\Below V.heap.size V w'):=Hk fun V hV=>HM.out V (bel_then U hV) nm wr.heap.size (cell_below aA hV)
   clear K U ae af aj;generalize ba nm=x at*
   cases hg:Qhj f nm with
   |true=>
    rw[hg] at ad H;have HP:=Hk (H.out true rfl);clear hg H ab;go_wp2_with (first|(go_at_call 93;refine ad.out.mono ?_;rintro e w4 ⟨rfl,y⟩;have Z:=Hk (bel_then am.out y);clear y));go_roundw
    case rel=>exact⟨q+1,by omega,by go_num,all_step J HA.out HP.out,Z.out⟩
    case measure=>simp[intOf];omega
   |false=>
    rw[hg] at ad H
    cases hm:l.any (mkB f nm) with
    |true=>
     rw[hm] at ab H;have HP:=Hk (H.out true rfl);clear hg hm H;go_wp2_with (first|(go_at_call 93;refine ad.out.mono ?_;rintro e w4 ⟨rfl,y⟩;have al:=Hk (ab.out w4 y);have Z:=Hk (bel_then am.out y);clear y)|(go_at_call 94;refine al.out.mono ?_;rintro e w5 ⟨rfl,aa⟩;have aq:=Hk (bel_then Z.out aa);clear aa));go_roundw
     case rel=>exact⟨q+1,by omega,by go_num,all_step J HA.out HP.out,aq.out⟩
     case measure=>simp[intOf];omega
    |false=>
     rw[hm] at ab H;have HP:=Hk (H.out false rfl);clear hg hm H;go_wp2_with (first|(go_at_call 93;refine ad.out.mono ?_;rintro e w4 ⟨rfl,y⟩;have al:=Hk (ab.out w4 y);have Z:=Hk (bel_then am.out y);clear y)|(go_at_call 94;refine al.out.mono ?_;rintro e w5 ⟨rfl,aa⟩;have aq:=Hk (bel_then Z.out aa);clear aa));go_ret;exact⟨ret_bool (by rw[HR.out,Qoz J HP.out]),O.out.1.trans (aq.out.mono O.out.1.size)⟩
  ·go_wp2;go_ret;exact⟨ret_bool (by have:=HA.out;rw[List.take_of_length_le (by have:=HN.out;omega)] at this;rw[HR.out,this]),O.out.1.trans (af.mono O.out.1.size)⟩
end Go.Proofs.YtjlgejennghhlaaGreatDoor.Pl
namespace Go.Proofs.YtjlgejennghhlaaGreatDoor.Pl
open Go.RowKit
open Fw (By FJob Flw ba)
theorem QeQ (l:List Nat):intCells l=(l.map fun(k:Nat)=>(k:Int)).map (Value.int .i64):=by simp[intCells]
theorem Qc6.of {w:World} {B:Nat} {v:Value} {l:List Nat} (h:w.ownsRow B 3 1 v l.length (intCells l)):Qc6 w v l:=by
 have F:=h;obtain⟨-,⟨rfl,y⟩|⟨g,D,H,rfl,K,J,y,I,-,-⟩⟩:=h
 ·exact Or.inl ⟨rfl,List.length_eq_zero_iff.1 y⟩
 ·refine Or.inr ⟨g,0,D,rfl,y,(F.lt g rfl).2,fun j hj=>?_⟩;rw[Nat.zero_add,F.cellAt j (by omega)];simp[intCells,List.getElem?_eq_getElem hj]
theorem QmY {w:World} {g q:Nat} {d:Array Int}:w.grownBy (Sort.putRow (Value.int .i64) (Sort.ahead w q) g 0 d) (some g):=
 ⟨rfl,rfl,rfl,by simp[Sort.putRow,Sort.mapBlock,Sort.ahead],fun k hk hne=>by
  simp[Sort.putRow,Sort.mapBlock,Sort.ahead,Array.getElem?_modify,show g≠k by rintro rfl;exact hne rfl]⟩
theorem QpO (B i:Nat) (y:Value) (left:List Nat) (w:World) (U:i<left.length) (Z:left.length<=1000) (h:w.ownsRow B 3 1 y left.length (intCells left)):
 Calls Tryz.prog 57 #[y,.int .i64 (i:Nat),.int .i64 ((i:Int)+1)] w fun e w'=>∃lv',e=.returned lv'/\w'.ownsRow B 3 1 lv' (left.eraseIdx i).length (intCells (left.eraseIdx i))/\lv'.ownBlock=y.ownBlock/\w.grownBy w' y.ownBlock:=by
 rw[show((i:Int)+1)=((i+1:Nat):Int) by omega];rw[QeQ] at h;obtain⟨g,D,rfl,hB,hg,K,M,F,N⟩:=Lib.holds_of_ownsRow h (by
  intro e;obtain⟨-,⟨-,K⟩|⟨g,D,V,O,-⟩⟩:=h
  ·omega
  ·rw[O] at e;cases e)
 have J:=Tryz.slices_Delete_int g 0 D i (i+1) (left.map fun(k:Nat)=>(k:Int)) w N (by rw[F];exact K) (by unfold maxLen at M;omega) (by omega) (by rw[F];omega);rw[F] at J;refine J.mono ?_;rintro e w' ⟨rfl,q,rfl⟩;have H:((left.map fun(k:Nat)=>(k:Int)).take i++(left.map fun(k:Nat)=>(k:Int)).drop (i+1)++List.replicate (i+1-i) (0:Int)).length=left.length:=by simp;omega
 have I:=Lib.ownsRow_putRow (q:=q) (k:=left.length-1) h H (by omega);have he:(((left.map fun(k:Nat)=>(k:Int)).take i++(left.map fun(k:Nat)=>(k:Int)).drop (i+1)++List.replicate (i+1-i) (0:Int)).take (left.length-1)).map (Value.int .i64)=intCells (left.eraseIdx i):=by
  rw[List.take_left' (by simp;omega),QeQ,List.eraseIdx_eq_take_drop_succ];simp
 rw[he] at I;refine⟨_,rfl,?_,rfl,QmY⟩;rw[List.length_eraseIdx_of_lt U,show left.length-(i+1-i)=left.length-1 by omega];exact I
theorem QkU (f:Flw) (K H J v:Value) (l:List Nat) (F T k:Nat) (w:World) (h:Fw.FlowRd w f K H J) (N:Fw.FlwOK f) (y:Qcc w F K H J) (hT:w.cell? ⟨T,0,none⟩=some v) (U:k<f.jobs.length) (I:Qc6 w v l) (D:∀k∈l,k<f.jobs.length) (M:l.length<=100):
 Calls Tryz.prog 55 #[.int .i64 (k:Nat),.pointer (some ⟨F,0,none⟩),.pointer (some ⟨T,0,none⟩)] w fun e w'=>e=.returned (.bool (QfV f k l))/\Below w.heap.size w w':=by
 have V:=Hk (QmX f K H J v l k w h N U I D M);have g1:=y.1;have g2:=y.2.1;have g3:=y.2.2;obtain⟨Z,jc,rfl⟩:=row_slice h.jobs;obtain⟨ia,ic,rfl⟩:=row_slice h.ins;obtain⟨oa,oc,rfl⟩:=row_slice h.outs;obtain⟨va,vc,rfl⟩:=QcJ I;clear h N y I D;go_enter Tryz.func55,Tryz.ntmps55;go_wp2_with (first|(go_at_call 56;refine V.out.mono ?_;rintro e w2 ⟨rfl,O⟩));go_ret;exact⟨rfl,O⟩
theorem QoA {p:Nat->Bool} {l:List Nat} {k:Nat} (h:k<l.length) (D:(l.take k).any p=false) (y:p l[k]=true):l.findIdx? p=some k:=by
 rw[List.findIdx?_eq_some_iff_getElem];refine⟨h,y,fun j hj=>?_⟩;have:=List.any_eq_false.1 D l[j] (by
  rw[List.mem_iff_getElem];exact⟨j,by simp;omega,by simp⟩)
 exact this
theorem QmZ {p:Nat->Bool} {l:List Nat} (h:l.any p=false):l.findIdx? p=none:=by
 rw[List.findIdx?_eq_none_iff];intro x y;simpa using List.any_eq_false.1 h x y
theorem Qm0 (f:Flw) (vi vj vo v lv:Value) (l left:List Nat) (F T:Nat) (w:World) (h:Fw.FlowRd w f vi vj vo) (hf:Fw.FlwOK f) (hF:Qcc w F vi vj vo) (hT:w.cell? ⟨T,0,none⟩=some v) (hl:Qc6 w v l) (K:∀k∈l,k<f.jobs.length) (am:l.length<=100) (hL:Qc6 w lv left) (U:∀k∈left,k<f.jobs.length) (Z:left.length<=100):
 Calls Tryz.prog 54 #[lv,.func (.func 55) #[] #[.pointer (some ⟨F,0,none⟩),.pointer (some ⟨T,0,none⟩)]] w fun e w'=>∃r:Int,e=.returned (.int .i64 r)/\((∃i:Nat,r=(i:Int)/\(left.findIdx? fun k=>QfV f k l)=some i)\/(r= -1/\(left.findIdx? fun k=>QfV f k l)=none))/\Below w.heap.size w w':=by
 obtain⟨ia,ic,rfl⟩:=QcJ hL;obtain⟨n,hn⟩:∃n,left.length=n:=⟨_,rfl⟩;have HN:=Hk hn;have HL:=Hk hL;have HQ:Hid (∀V,Below w.heap.size w V->∀k,k<f.jobs.length->Calls Tryz.prog 55 #[.int .i64 (k:Nat),.pointer (some ⟨F,0,none⟩),.pointer (some ⟨T,0,none⟩)] V fun e w'=>e=.returned (.bool (QfV f k l))/\Below V.heap.size V w'):=Hk fun V hV k hk=>QkU f vi vj vo v l F T k V (h.below hV) hf (hF.below hV) (cell_below hT hV) hk (hl.below hV) K am
 have ah:=Hk U;rw[hn] at Z⊢;clear hn h hF hT hl hf K hL U;go_enter Tryz.func54,Tryz.ntmps54;go_wp2;go_loopw [8] (fun i wr=>∃k:Nat,k<=n/\i=.int .i64 k/\(left.take k).any (fun k=>QfV f k l)=false/\Below w.heap.size w wr) (fun i _=>n-(intOf i).toNat)
 case atStart=>exact⟨0,Nat.zero_le _,rfl,rfl,Below.refl _ _⟩
 case round=>
  obtain⟨k,hk,rfl,O,D⟩:=hrel;have HA:=Hk O;clear O
  by_cases K:k<n
  ·have y:k<left.length:=by have:=HN.out;omega
   rcases HL.out with ⟨-,N⟩|⟨b,o,c',N,aw,hb,J⟩
   ·rw[N] at y;exact absurd y (by simp)
   simp only[Value.slice.injEq] at N;obtain⟨rfl,-,rfl⟩:=N;have e1:=(D.cell (p:=⟨b,o+k,none⟩) hb).trans (J k y);have HC:=Hk (HQ.out wr D left[k] (ah.out _ (List.getElem_mem y)));have I:=Hk D;clear D J
   cases hp:QfV f left[k] l
   all_goals have HP:=Hk hp
   all_goals rw[hp] at HC
   all_goals clear hp
   ·go_wp2_with (go_at_call 55;refine HC.out.mono ?_;rintro e w2 ⟨rfl,H⟩;have M:=Hk (I.out.trans (H.mono I.out.size));clear H);go_roundw
    case rel=>exact⟨k+1,by omega,by go_num,any_step y HA.out HP.out,M.out⟩
    case measure=>simp[intOf];omega
   ·go_wp2_with (go_at_call 55;refine HC.out.mono ?_;rintro e w2 ⟨rfl,H⟩;have M:=Hk (I.out.trans (H.mono I.out.size));clear H);go_ret;exact⟨k,rfl,Or.inl ⟨k,rfl,QoA y HA.out HP.out⟩,M.out⟩
  ·go_wp2;go_ret;exact⟨-1,rfl,Or.inr ⟨rfl,QmZ (by have:=HA.out;rwa[List.take_of_length_le (by have:=HN.out;omega)] at this)⟩,D⟩
end Go.Proofs.YtjlgejennghhlaaGreatDoor.Pl
namespace Go.Proofs.YtjlgejennghhlaaGreatDoor.Pl
open Go.RowKit
open Fw (By FJob Flw ba)
theorem QeR (l:List Nat) (k:Nat):intCells (l++[k])=intCells l++[.int .i64 (k:Int)]:=by simp[intCells]
structure OrdS (w1 wr:World) (T B:Nat) (lv tv:Value) (left told:List Nat):Prop where
 low:Below w1.heap.size w1 wr
 box:Fw.Box wr T [tv]
 left:wr.ownsRow B 3 1 lv left.length (intCells left)
 told:wr.ownsRow B 3 1 tv told.length (intCells told)
 apart:lv.ownBlock=none\/lv.ownBlock≠tv.ownBlock
theorem OrdS.below {H wr w':World} {T B:Nat} {D F:Value} {left told:List Nat} (h:OrdS H wr T B D F left told) (y:Below wr.heap.size wr w'):OrdS H w' T B D F left told:=
 ⟨bel_then h.low y,h.box.below y,owns_below h.left y,owns_below h.told y,h.apart⟩
theorem OrdS.del {H wr w':World} {T B:Nat} {I F D:Value} {left told y:List Nat} (h:OrdS H wr T B I F left told) (O:T<B) (K:H.heap.size<=B) (J:wr.grownBy w' I.ownBlock) (N:w'.ownsRow B 3 1 D y.length (intCells y)) (M:D.ownBlock=I.ownBlock):OrdS H w' T B D F y told:=by
 refine⟨h.low.grown J h.low.size (fun q hq=>Nat.le_trans K (h.left.lt q hq).1),h.box.grown J (fun e=>by have:=(h.left.lt T e).1;omega),N,?_,by rw[M];exact h.apart⟩;refine h.told.kept J ?_;rcases h.apart with e|e
 ·cases hx:F.ownBlock with
  |none=>exact Or.inl rfl
  |some g=>exact Or.inr (by rw[e];simp)
 ·exact Or.inr (fun q=>e q.symm)
theorem OrdS.tell {F wr D:World} {T B g H k:Nat} {J I:Value} {left told:List Nat} (h:OrdS F wr T B J I left told) (U:T<B) (ad:F.heap.size<=T) (O:D.ownsRow B 3 1 (.slice (some ⟨g,0,none⟩) (told.length+1) H) (told.length+1) (intCells told++[.int .i64 (k:Int)])) (K:(wr.alloc (.cells #[.int .i64 (k:Int)] 3)).grownBy D I.ownBlock) (V:I.ownBlock=some g\/g=wr.heap.size+1):
 OrdS F (D.setCell ⟨T,0,none⟩ (.slice (some ⟨g,0,none⟩) (told.length+1) H)) T B J (.slice (some ⟨g,0,none⟩) (told++[k]).length H) left (told++[k]):=by
 have aa:=h.low.size;have ab:=h.told.alloc (.cells #[.int .i64 (k:Int)] 3);have y:Below F.heap.size F D:=(h.low.alloc (by omega) _).grown K (by simp;omega) (fun q hq=>by have:=(h.told.lt q hq).1;omega);have N:Fw.Box D T [I]:=(h.box.below (Qaa _ _)).grown K (fun e=>by have:=(h.told.lt T e).1;omega);have ac:B<=g:=(O.lt g rfl).1;have M:D.ownsRow B 3 1 J left.length (intCells left):=by
  refine(h.left.alloc (.cells #[.int .i64 (k:Int)] 3)).kept K ?_;rcases h.apart with e|e
  ·exact Or.inl e
  ·exact Or.inr e
 refine⟨?_,by rw[List.length_append];exact N.set 0 _,?_,?_,?_⟩
 ·exact⟨y.os,y.tape,y.output,by simpa [World.setCell] using y.size,fun q hq=>(Below.heap_setCell _ _ _ _ (show q≠T by omega)).trans (y.block q hq)⟩
 ·exact ownsRow_setCell_below M (a:=⟨T,0,none⟩) U _
 ·rw[QeR,List.length_append];exact ownsRow_setCell_below O (a:=⟨T,0,none⟩) U _
 ·rcases h.apart with e|e
  ·exact Or.inl e
  ·refine Or.inr ?_;simp only[Value.ownBlock];rcases V with q|q
   ·rw[<-q];exact e
   ·intro Z;have:=(h.left.lt g Z).2;omega
def QrI:Value->Nat
 |.slice _ n _=>n
 |_=>0
def QrT (f:Flw) (w:World) (e:Ending) (w':World):Prop:=Below w.heap.size w w'/\
 ((QjQ f=none/\∃ev,e=.returned (.tuple #[.slice none 0 0,ev])/\AtV w' ev 11)\/
  (∃o tv,QjQ f=some o/\e=.returned (.tuple #[tv,.nilIface])/\w'.ownsRow w.heap.size 3 1 tv o.length (intCells o)))
theorem QoB {told left:List Nat} {i x k:Nat} (h:(told++left).Perm (List.range k)) (y:i<left.length) (D:left[i]=x):((told++[x])++left.eraseIdx i).Perm (List.range k):=by
 rw[List.append_assoc,<-D];exact(List.Perm.append_left told (Qex left i y)).trans h
theorem QoC {f:Flw} {told left:List Nat} {i x:Nat} {r:Option (List Nat)} (h:Qhk f left.length left told=r) (D:(left.findIdx? fun k=>QfV f k told)=some i) (y:i<left.length) (F:left[i]=x):Qhk f (left.eraseIdx i).length (left.eraseIdx i) (told++[x])=r:=by
 rw[<-h,List.length_eraseIdx_of_lt y];rw[show Qhk f left.length left told=Qhk f ((left.length-1)+1) left told by rw[Nat.sub_add_cancel (by omega)]]
 conv=>rhs;unfold Qhk
 rw[D];simp only[List.getD_eq_getElem?_getD,List.getElem?_eq_getElem y,F,Option.getD_some]
theorem Qic (f:Flw) (vi vj vo:Value) (w:World) (h:Fw.FlowRd w f vi vj vo) (hf:Fw.FlwOK f):
 Calls Tryz.prog 20 #[.agg #[vi,vj,vo]] w fun e w'=>QrT f w e w':=by
 obtain⟨i0,hi,a0,a8,a3⟩:=info_parts Tryz.infoInt;obtain⟨ja,jc,rfl⟩:=row_slice h.jobs;obtain⟨J,hJ⟩:∃J,f.jobs.length=J:=⟨_,rfl⟩;have bN:J<=16:=by rw[<-hJ];exact hf.jl
 rw[hJ] at h⊢;obtain⟨D,ay⟩:∃x,w.alloc (.cells #[vi,.slice ja J jc,vo] 29)=x:=⟨_,rfl⟩;have au:Below w.heap.size w D:=by rw[<-ay];exact Qaa _ _
 have a4:D.heap.size=w.heap.size+1:=by rw[<-ay];simp
 have aK:Qcc D w.heap.size vi (.slice ja J jc) vo:=by rw[<-ay];exact Qcc.new _ _ _ _ _
 obtain⟨I,aw⟩:∃x,D.alloc (.cells #[.slice none 0 0] 73)=x:=⟨_,rfl⟩;have aF:Below D.heap.size D I:=by rw[<-aw];exact Qaa _ _
 have aW:I.heap.size=w.heap.size+2:=by rw[<-aw];simp;omega
 have aZ:Fw.Box I D.heap.size [.slice none 0 0]:=by rw[<-aw];exact Fw.Box.new D _ _ _ rfl
 have ap:=Hk au;have a1:=Hk aF;have bF:=Hk aZ;have aY:=Hk aK;have HH:=Hk (Ai (h.below au) hf);have HJ:=Hk hJ;have af:=Hk a4;have Z:=Hk aW;have g1:=(aK.below aF).2.1;have b5:=mkF;clear h hf hJ au aF aZ aK a4 aW;go_enter Tryz.func20,Tryz.ntmps20;go_wp2;go_loopw [4,11] (fun l i wr=>∃k:Nat,k<=J/\i=.int .i64 k/\wr.ownsRow I.heap.size 3 1 l k (intCells (List.range k))/\Below I.heap.size I wr) (fun _ i _=>J-(intOf i).toNat)
 case atStart=>exact⟨0,Nat.zero_le _,rfl,World.ownsRow_nil _ _ _ _,Below.refl _ _⟩
 case round=>
  obtain⟨k,hk,rfl,O,aa⟩:=hrel;obtain⟨la,lc,rfl⟩:=own_slice O;have HX:=Hk (Ai O aa);have b0:=aa.size
  by_cases hlt:k<J
  ·have HT:=Hk (show intCells (List.range k)++[.int .i64 ((k:Nat):Int)]=intCells (List.range (k+1)) by rw[List.range_succ,QeR]);clear O aa;go_wp2_with (first|(at_builtin;refine wpList_append_own _ rfl _ _ 73 rfl I.heap.size 3 i0 (.int .i64 0) 1 8 Tryz.underlying73 hi a0 a8 a3 rfl (by decide) _ _ _ rfl (HX.out.1.alloc _) ⟨wr.heap.size,0,none⟩ 1 1 [.int .i64 (k:Int)] rfl rfl (news1 _ _ _ _ rfl) (Qpt _ _) ?c3 ?c4 ?c5 ?_))
   case c3=>unfold maxLen;omega
   case c4=>omega
   case c5=>simp;omega
   intro v' w5 ae al _;have aC:Below I.heap.size I w5:=(HX.out.2.alloc (by omega) _).grown al (by simp;omega) (fun q hq=>(HX.out.1.lt q hq).1);rw[HT.out] at ae;have HF:=Hk (Ai ae aC);clear ae al aC;go_wp2;go_roundw
   case rel=>exact⟨k+1,by omega,by go_num,HF.out.1,HF.out.2⟩
   case measure=>simp[intOf];omega
  ·obtain rfl:k=J:=by omega
   have hO:OrdS D wr D.heap.size I.heap.size (.slice la k lc) (.slice none 0 0) (List.range k) []:=by
    refine⟨a1.out.trans (aa.mono a1.out.size),bF.out.below aa,?_,World.ownsRow_nil _ _ _ _,?_⟩
    ·rw[List.length_range];exact O
    ·cases hx:(Value.slice la k lc).ownBlock with
     |none=>exact Or.inl rfl
     |some g=>exact Or.inr (by simp[Value.ownBlock])
   have HO:=Hk hO;have bn:Hid (Qhk f (List.range k).length (List.range k) []=QjQ f):=Hk (by rw[List.length_range,<-HJ.out];rfl);clear O aa hO HX;go_wp2;obtain⟨wa,bb⟩:∃x,x=wr:=⟨_,rfl⟩;rw[<-bb] at HO⊢;clear bb;go_loopw [4] (fun lv wr=>∃(left told:List Nat) (tv:Value),OrdS D wr D.heap.size I.heap.size lv tv left told/\(told++left).Perm (List.range k)/\Qhk f left.length left told=QjQ f) (fun lv _=>QrI lv)
   case atStart=>exact⟨List.range k,[],_,HO.out,by simp,bn.out⟩
   case round=>
    obtain⟨left,told,tv,K,y,ad⟩:=hrel;obtain⟨la,lc,rfl⟩:=own_slice K.left;have HS:=Hk K;have HP:=Hk y;have HD:=Hk ad;have aJ:Below w.heap.size w wr:=ap.out.trans (K.low.mono ap.out.size);have b3:left.length<=16:=by
     have:=y.length_eq;rw[List.length_append,List.length_range] at this;omega
    have b4:told.length<=16:=by
     have:=y.length_eq;rw[List.length_append,List.length_range] at this;omega
    have M:∀q,q∈told\/q∈left->q<f.jobs.length:=fun q hq=>by
     rw[HJ.out,<-List.mem_range,<-y.mem_iff,List.mem_append];exact hq
    have av:=aY.out.below K.low;have hT:=K.box.cell 0 (v:=tv) rfl;have b1:=K.low.size
    by_cases hlt:0<left.length
    ·have HI:=Hk (Qm0 f vi (.slice ja k jc) vo tv (.slice la left.length lc) told left w.heap.size D.heap.size wr (HH.out.1.below K.low) HH.out.2 av hT (Qc6.of K.told) (fun q hq=>M q (Or.inl hq)) (by omega) (Qc6.of K.left) (fun q hq=>M q (Or.inr hq)) (by omega));have HM:=Hk M;have bS:(0:Int)<(left.length:Int):=by omega
     clear K y ad aJ M av hT;go_wp2_with (first|(go_at_call 54;fail));refine HI.out.mono ?_;rintro e4 F ⟨r,rfl,hr,bd⟩;have N:=Hk (HS.out.below bd);clear bd HI;rcases hr with ⟨i,rfl,ab⟩|⟨rfl,ab⟩
     ·have b6:¬((i:Int)<0):=by omega
      obtain⟨ah,-,-⟩:=List.findIdx?_eq_some_iff_getElem.1 ab;have H:=Hk (N.out.below ((Below.refl _ F).drew));obtain⟨g,gc,e0,bI,br,ag⟩:=QdG H.out.left hlt;simp only[Value.slice.injEq,true_and] at e0;obtain⟨rfl,rfl⟩:=e0;have cG:=ag i ah;rw[Nat.zero_add] at cG;have cT:=H.out.box.cell 0 (v:=tv) rfl;have lT:=H.out.box.lt;obtain⟨x,hx⟩:∃x,left[i]=x:=⟨_,rfl⟩;rw[hx] at cG;have b7:(i:Int)<(left.length:Int):=by omega
      obtain⟨ta,tc,rfl⟩:=own_slice H.out.told;have bz:I.heap.size<=F.drew.heap.size:=by have:=H.out.low.size;have:=lT;have:=af.out;have:=Z.out;omega
      have cA:(F.alloc (.cells #[.int .i64 (x:Int)] 3)).drew.cell? ⟨D.heap.size,0,none⟩=some (.slice ta told.length tc):=by
       show(F.drew.alloc (.cells #[.int .i64 (x:Int)] 3)).cell? ⟨D.heap.size,0,none⟩=_
       rw[World.cell?_alloc_lt _ _ ⟨D.heap.size,0,none⟩ lT];exact cT
      have HX:=Hk hx;have bD:=Hk ab;clear ag hx ab HS N;go_wp2_with fail;go_region_law (first|(refine step_append_lies _ (by rfl) _ _ _ (by rfl) I.heap.size 3 i0 _ 1 8 Tryz.underlying73 hi a0 a8 a3 rfl (by decide) (.slice ta told.length tc) told.length _ (by rfl) (H.out.told.alloc _) ⟨F.drew.heap.size,0,none⟩ 1 1 [.int .i64 (x:Int)] (by rfl) (by rfl) (news1 _ _ _ _ rfl) (Qpt _ _) (by decide) (by unfold maxLen;omega) (by omega) (Nat.le_trans bz (by simp)) (F.drew.heap.size+1) (by simp) ?_;intro gg b8 w5 am U aL bQ;have X5:=(H.out.box.below (Qaa _ (.cells #[.int .i64 (x:Int)] 3))).grown U (fun e=>by have:=(H.out.told.lt _ e).1;have:=af.out;have:=Z.out;omega);have c5:=X5.cell 0 (v:=.slice ta told.length tc) rfl;have f5:=X5.fz 0;have aB:=Hk (H.out.tell (by have:=af.out;have:=Z.out;omega) (Nat.le_refl _) am U aL);clear am U aL X5))
      all_goals clear c5 f5
      all_goals
       have a2:=Hk (QpO I.heap.size i (.slice (some ⟨g,0,none⟩) left.length lc) left _ ah (by omega) aB.out.left)
      all_goals go_wp2_with (first|(go_at_call 57;fail))
      all_goals refine a2.out.mono ?_
      all_goals rintro e6 w6 ⟨bW,rfl,aH,aX,a5⟩
      all_goals have bC:=Hk (aB.out.del (by have:=af.out;have:=Z.out;omega) (by have:=af.out;have:=Z.out;omega) a5 aH aX)
      all_goals obtain⟨bX,b2,rfl⟩:=own_slice aH
      all_goals clear aH aX a5 a2 aB
      all_goals go_wp2
      all_goals go_roundw
      all_goals first
       |exact⟨left.eraseIdx i,told++[x],_,bC.out,QoB HP.out ah HX.out,QoC HD.out bD.out ah HX.out⟩
       |(simp only[QrI];rw[List.length_eraseIdx_of_lt ah];omega)
     ·have aE:Hid (QjQ f=none):=Hk (by
       rw[<-HD.out,show left.length=(left.length-1)+1 by omega];unfold Qhk;rw[ab])
      obtain⟨g,gc,e0,bI,br,ag⟩:=QdG N.out.left hlt;simp only[Value.slice.injEq,true_and] at e0;obtain⟨rfl,rfl⟩:=e0;have be:left[0]<f.jobs.length:=HM.out _ (Or.inr (List.getElem_mem hlt));obtain⟨b,c,e1,bK,hb,ao,ai,ac,aU,-,-,-⟩:=QeP (HH.out.1.below N.out.low) be;simp only[Value.slice.injEq] at e1;obtain⟨rfl,-,rfl⟩:=e1;have q1:=(aY.out.below N.out.low).2.1;have q2:=ag 0 hlt;have q3:F.cell? ⟨b,left[0]*15+0,none⟩=some (.int .i64 (f.jobs[left[0]].at_:Nat)):=aU 0 _ rfl;rw[Nat.add_zero] at q2 q3;have bo:((left[0]:Nat):Int)<(k:Int):=by have:=HJ.out;omega
      generalize f.jobs[left[0]].at_=pl at*;obtain⟨x,hx⟩:∃x,left[0]=x:=⟨_,rfl⟩;rw[hx] at q2 q3 bo;have aI:Hid (∀V,Below F.heap.size F V->V.cell? ⟨w.heap.size,1,none⟩=some (.slice (some ⟨b,0,none⟩) k jc)/\V.cell? ⟨g,0,none⟩=some (.int .i64 (x:Int))/\V.cell? ⟨b,x*15,none⟩=some (.int .i64 (pl:Nat))):=Hk fun V hV=>⟨cell_below q1 hV,cell_below q2 hV,cell_below q3 hV⟩
      have G0:=Hk (aI.out F.drew (Below.refl _ F).drew);have a6:Hid (Below w.heap.size w F):=Hk (ap.out.trans (N.out.low.mono ap.out.size));have bs:Hid (∀V,Calls Tryz.prog 51 #[.int .i64 11,.int .i64 (pl:Nat)] V fun e w'=>∃p,e=.returned (.iface 100 (.pointer (some ⟨p,0,none⟩)))/\AtV w' (.iface 100 (.pointer (some ⟨p,0,none⟩))) 11/\Below V.heap.size V w'):=Hk fun V=>Qia 11 pl V
      clear ag q1 q2 q3 aU hx ab HS N;go_wp2_with fail
      go_region_held3 (fun V=>V.cell? ⟨w.heap.size,1,none⟩=some (.slice (some ⟨b,0,none⟩) k jc)/\V.cell? ⟨g,0,none⟩=some (.int .i64 (x:Int))/\V.cell? ⟨b,x*15,none⟩=some (.int .i64 (pl:Nat))) (first|exact G0.out|exact G1.out) (first|(go_at_call 51;refine(bs.out _).mono ?_;rintro e5 w5 ⟨p,rfl,aV,a9⟩;have a7:=Hk (show Below F.heap.size F w5 from((Below.refl _ F).drew).trans a9);have G1:=Hk (aI.out w5 a7.out);have bp:=Hk aV;clear aV a9))
      all_goals go_wp2
      all_goals refine bodyPost_ret (v:=.tuple #[.slice none 0 0,.iface 100 (.pointer (some ⟨p,0,none⟩))]) (by simp[results,Tryz.results20,go_sem]) rfl ?_
      all_goals exact⟨a6.out.trans (a7.out.mono a6.out.size),Or.inl ⟨aE.out,_,rfl,bp.out⟩⟩
    ·have bZ:¬(0:Int)<(left.length:Int):=by omega
     have bk:left=[]:=List.length_eq_zero_iff.1 (by omega);have aE:Hid (QjQ f=some told):=Hk (by rw[<-ad,bk];rfl);have bY:=K.box.cell 0 (v:=tv) rfl;have bB:=Hk aJ;obtain⟨ta,tc,rfl⟩:=own_slice K.told;clear K y ad aJ M av hT;go_wp2;refine bodyPost_ret (v:=.tuple #[.slice ta told.length tc,.nilIface]) (by simp[results,Tryz.results20,go_sem]) rfl ?_;exact⟨bB.out,Or.inr ⟨told,_,aE.out,rfl,own_mono (by have:=Z.out;omega) HS.out.told⟩⟩
end Go.Proofs.YtjlgejennghhlaaGreatDoor.Pl
namespace Go.Proofs.YtjlgejennghhlaaGreatDoor
open Go.RowKit
theorem QjW:∀(l:List (List Vl)) (acc:List (List UInt8)×List (List Vl)),∀r∈(l.foldl QbS acc).2,r∈acc.2\/r∈l
 |[],_,r,h=>Or.inl h
 |a::l,acc,r,h=>by
  rw[List.foldl_cons] at h;rcases QjW l _ r h with h|h
  ·unfold QbS at h;split at h
   ·exact Or.inl h
   ·rcases List.mem_append.1 h with h|h
    ·exact Or.inl h
    ·simp at h;exact Or.inr (by simp[h])
  ·exact Or.inr (by simp[h])
theorem QkY {cs:List Cl} {rs:List (List Vl)} (H:Qae cs rs=true):Qae cs (Qcr rs).2=true:=by
 obtain⟨y,D,F⟩:=QaI H;unfold Qae;rw[y];simp only[Bool.true_and,Bool.and_eq_true,decide_eq_true_eq,List.all_eq_true];refine⟨Nat.le_trans (QgU rs) D,fun r hm=>?_⟩;rcases QjW rs ([],[]) r hm with h|h
 ·simp at h
 ·exact F r h
end Go.Proofs.YtjlgejennghhlaaGreatDoor
