import Derived.Test.YtjlgejennghhlaaGreatDoorQ01
import Derived.Test.YtjlgejennghhlaaGreatDoorQ33
set_option linter.unusedSimpArgs false
set_option linter.unusedVariables false
set_option linter.unusedSectionVars false
set_option maxRecDepth 1000000
set_option maxHeartbeats 16000000
namespace Go.Proofs.YtjlgejennghhlaaGreatDoor
open Go.RowKit
theorem QiS {cs:List Cl} {rs:List (List Vl)} (h:Qae cs rs=true):∀r∈rs,∀x∈r,rvB x=true:=by
 intro r y x I;obtain⟨N,J,H⟩:=QaI h;obtain⟨M,K,O,F⟩:=Qam h;obtain⟨i,D,rfl⟩:=List.mem_iff_getElem.1 I;exact(QiL (H r y) i D (by rw[<-F r y];exact D)).2
theorem Qpu {x:Vl} (h:rvB x=true):Qaz x.2.1:=by
 have:=Qa2 h;exact⟨this.2.1,this.2.2⟩
theorem Qdp {w:World} {v:Value} {rs:List (List Vl)} (h:QaG w v rs):∀r∈rs,∀x∈r,x.2.2.size<=maxLen:=by
 obtain⟨a,c,-,h|⟨b,o,-,-,D⟩⟩:=h
 ·rw[h];intro r y;simp at y
 ·intro r y x I;obtain⟨i,H,rfl⟩:=List.getElem_of_mem y;obtain⟨u,-,-,-,-,F,-⟩:=D i H;exact F x I
theorem QcR {cs:List Cl} {x y:ByteArray} (h:QaM cs x y=0):Qaq cs x.data.toList=some (pOf cs x)/\Qaq cs y.data.toList=some (pOf cs y)/\QbM cs (pOf cs y)=1/\pOf cs x≠pOf cs y:=by
 unfold QaM at h;unfold pOf;split at h
 ·rename_i p q D F
  rw[D,F];split at h
  ·cases h
  ·rename_i I
   split at h
   ·cases h
   ·rename_i H
    exact⟨rfl,rfl,by simpa using I,H⟩
 ·cases h
theorem grp_list {cs:List Cl} {x y:ByteArray} (h:QaM cs x y=0):QaQ cs [x,y]=0:=by
 obtain⟨D,H,-,I⟩:=QcR h;have F:x.data.toList≠y.data.toList:=fun e=>I (by unfold pOf;rw[e])
 unfold QaQ;rw[if_neg (by simp)];simp[QhF,D,H,inS];exact fun e=>F (by rw[e])
theorem QkC {cs:List Cl} {x y:ByteArray}:Qaj cs [x,y]=[pOf cs x,pOf cs y]:=rfl
theorem strs_two {w:World} {v:Value} {x y:ByteArray} (h:Qcl w v [x,y]):QbR w v x y:=by
 obtain⟨a,c,e,-,-,h|⟨b,o,rfl,F,D⟩⟩:=h
 ·simp at h
 ·exact⟨b,o,c,e,F,by simpa using D 0 (by simp),by simpa using D 1 (by simp)⟩
def grpOf (t:Tb) (x y:ByteArray):List Gr:=Qep (pOf t.1 x) (pOf t.1 y) (Qa8 [pOf t.1 x] t.2)
def grpT (t:Tb) (x y:ByteArray):Tb:=(Qbc [pOf t.1 x,pOf t.1 y] t.1,QaA (grpOf t x y))
open Classical in
noncomputable def grpNo (t:Tb) (x y:ByteArray):Int:=if Qae t.1 t.2=false then 1 else if QaM t.1 x y≠0 then QaM t.1 x y else if∀g∈grpOf t x y,Qaz g.2 then 0 else 2
theorem grpNo_0 {t:Tb} {x y:ByteArray} (h:grpNo t x y=0):Qae t.1 t.2=true/\QaM t.1 x y=0/\∀g∈grpOf t x y,Qaz g.2:=by
 unfold grpNo at h;split at h
 ·cases h
 ·rename_i F
  split at h
  ·rename_i D;exact absurd h D
  ·rename_i D
   split at h
   ·rename_i H
    exact⟨by simpa using F,by simpa using D,H⟩
   ·cases h
theorem grp_wrong {t:Tb} {x y:ByteArray} {j:Jb} {W:World} {B g D:Nat} {us:List Value} (I:j.code=8) (O:j.op=⟨#[115,117,109]⟩) (hr:Qae t.1 t.2=true) (hs:Qcl W j.cols [x,y]) (ho:W.ownsRow B 51 1 (.slice (some ⟨g,0,none⟩) 1 D) 1 us) (hh:QaE W us [t.1]):∀h,Below W.heap.size W h->Calls Tryz.prog 96 #[.agg j.cells,.slice (some ⟨g,0,none⟩) 1 D] h fun e w'=>e=.returned (QbK (QaM t.1 x y))/\Below h.heap.size h w':=by
 intro h F;obtain⟨V,ai,aj,ah⟩:=Qam hr;obtain⟨b,o,c,M,K,J,N⟩:=Qcq ho hh V;refine QfK g 0 1 D b o t.1.length c j _ h I (by decide) (Nat.lt_of_lt_of_le K F.size) (cK F K M) (fun W2 hW2=>?_);have H:=bel_then F hW2;obtain⟨nb,no,Z,e,U,s0,s1⟩:=(strs_two hs).below H;exact group_any b o t.1.length c nb no Z t.1 x y j W2 e O U s0 s1 rfl (by omega) (Nat.lt_of_lt_of_le J H.size) (N.below H J)
theorem grp_cols {t:Tb} {x y:ByteArray} {j:Jb} {oa:Option Addr} {K:Nat} {w:World} (h:j.code=8) (N:j.op=⟨#[115,117,109]⟩) (I:j.outs=.slice oa 1 K) (hs:Qcl w j.cols [x,y]) (Z:Qae t.1 t.2=true) (he:QaM t.1 x y=0):∀W B g D us,Below w.heap.size w W->W.ownsRow B 51 1 (.slice (some ⟨g,0,none⟩) [t].length D) [t].length us->QaE W us ([t].map (·.1))->Calls Tryz.prog 59 #[.agg j.cells,.slice (some ⟨g,0,none⟩) [t].length D] W fun e w'=>∃v us,e=.returned (.tuple #[v,.nilIface])/\w'.ownsRow W.heap.size 51 1 v 1 us/\Qbj w' W.heap.size us (grpT t x y).1/\Below W.heap.size W w':=by
 intro W B g D us O U V;have aa:Qa1 j.code=(((1:Nat):Int),((1:Nat):Int)):=by rw[h];rfl
 obtain⟨ac,af,ag,ae⟩:=Qam Z;obtain⟨b,o,c,J,H,F,M⟩:=Qcq U V ac;refine cols_ok _ oa D K j 1 1 (grpT t x y).1 W I aa (by decide) (by decide) (fun W' hW'=>?_) (fun W' hW'=>QcQ g 0 1 D b o t.1.length c t.1 [x,y] j W' h (by decide) (Nat.lt_of_lt_of_le H hW'.size) (cK hW' H J) ((hs.below O).below hW') (grp_list he) rfl (by omega) (Nat.lt_of_lt_of_le F hW'.size) (M.below hW' F));have:=grp_wrong h N Z (hs.below O) U V W' hW';rw[he] at this;exact this
theorem Qe3 {t:Tb} {x y:ByteArray} (F:Qae t.1 t.2=true) (he:QaM t.1 x y=0):∀r∈t.2,Qaz (vAt r (pOf t.1 y)).2.1:=by
 intro r h;obtain⟨K,J,I,D⟩:=Qam F;have H:=Qap (QcR he).2.1;rw[Qdf (by rw[D r h];exact H)];exact Qpu (QiS F r h _ (List.getElem_mem _))
theorem do_grp_bad (tb h tcap:Nat) (t:Tb) (x y:ByteArray) (j:Jb) (oa:Option Addr) (Z:Nat) (w:World) (D:j.code=8) (J:j.op=⟨#[115,117,109]⟩) (K:j.outs=.slice oa 1 Z) (O:Qcl w j.cols [x,y]) (M:QaX w tb h [t]) (F:tb<w.heap.size) (U:grpNo t x y≠0):
 Calls Tryz.prog 61 #[.agg j.cells,.slice (some ⟨tb,h,none⟩) 1 tcap] w fun e w'=>e=.returned (.tuple #[.slice none 0 0,QbK (grpNo t x y)])/\Below w.heap.size w w':=by
 have ad:Qa1 j.code=(((1:Nat):Int),((1:Nat):Int)):=by rw[D];rfl
 cases hr:Qae t.1 t.2
 ·have:grpNo t x y=1:=by unfold grpNo;rw[if_pos hr]
  rw[this];exact QhC tb h tcap [t] j w M F (by simp) ⟨t,by simp,hr⟩
 ·have I:∀u∈[t],Qae u.1 u.2=true:=by intro u hu;simp at hu;rw[hu];exact hr
  by_cases he:QaM t.1 x y=0
  ·by_cases hS:∀g∈grpOf t x y,Qaz g.2
   ·exfalso;apply U;unfold grpNo;rw[if_neg (by simp[hr]),if_neg (by simpa using he),if_pos hS]
   ·have:grpNo t x y=2:=by unfold grpNo;rw[if_neg (by simp[hr]),if_neg (by simpa using he),if_neg hS]
    rw[this];obtain⟨ae,av,aw,V⟩:=Qam hr;obtain⟨vc,vr,c0,c1,hc,N⟩:=M 0 (by simp);obtain⟨hp,hq,-,-⟩:=QcR he;refine QiR tb h tcap [t] j w M F (by simp) (by simp) I (grpT t x y).1 1 2 (by decide) (grp_cols D J K O hr he) (fun W H=>?_);obtain⟨nb,no,cc,e,ab,s0,s1⟩:=(strs_two O).below H;exact rowsOf_group_bad tb h 1 tcap nb no cc _ _ vc vr t.1 t.2 x y j W D J e ab s0 s1 hp hq (by decide) (Nat.lt_of_lt_of_le F H.size) ((H.cell (p:=⟨tb,h,none⟩) F).trans (by simpa using c0)) ((H.cell (p:=⟨tb,h+1,none⟩) F).trans (by simpa using c1)) (hc.below H) (N.below H) ae (by omega) V (by omega) (Qe3 hr he) (Qdp N) hS
  ·have hn:grpNo t x y=QaM t.1 x y:=by unfold grpNo;rw[if_neg (by simp[hr]),if_pos he]
   rw[hn];refine QhD tb h tcap [t] j w M F (by simp) (by simp) I _ he ?_;intro W B g aa us H ho hh;exact Qdm _ oa aa Z j 1 1 _ W K ad (by decide) he (grp_wrong D J hr (O.below H) ho hh)
theorem grp_len (t:Tb) (x y:ByteArray):(QaA (grpOf t x y)).length<=t.2.length:=by
 have h:=QfD (pOf t.1 x) (pOf t.1 y) (Qa8 [pOf t.1 x] t.2);rw[QbG] at h;unfold QaA;rw[List.length_map];exact h
theorem Qgz {cs:List Cl} {D:List Nat} (h:∀z∈cs,z.1.size<=maxLen):∀z∈Qbc D cs,z.1.size<=maxLen:=by
 intro z y;unfold Qbc at y;obtain⟨k,-,rfl⟩:=List.mem_map.1 y
 by_cases hk:k<cs.length
 ·rw[List.getElem?_eq_getElem hk];exact h _ (List.getElem_mem hk)
 ·rw[List.getElem?_eq_none (by omega)];exact Nat.zero_le _
theorem do_grp_ok (tb h tcap:Nat) (t:Tb) (x y:ByteArray) (j:Jb) (oa:Option Addr) (oc:Nat) (w:World) (D:j.code=8) (I:j.op=⟨#[115,117,109]⟩) (K:j.outs=.slice oa 1 oc) (Z:Qcl w j.cols [x,y]) (O:QaX w tb h [t]) (F:tb<w.heap.size) (M:grpNo t x y=0):
 Calls Tryz.prog 61 #[.agg j.cells,.slice (some ⟨tb,h,none⟩) 1 tcap] w fun e w'=>∃g c,e=.returned (.tuple #[.slice (some ⟨g,0,none⟩) 1 c,.nilIface])/\w.heap.size<=g/\g<w'.heap.size/\QbP w' w.heap.size g [grpT t x y]/\Below w.heap.size w w':=by
 obtain⟨H,he,hS⟩:=grpNo_0 M;obtain⟨aa,aw,ax,N⟩:=Qam H;obtain⟨vc,vr,c0,c1,hc,J⟩:=O 0 (by simp);obtain⟨hp,hq,-,-⟩:=QcR he;refine QdU tb h tcap [t] j w O F (by simp) (by simp) (by intro u V;simp at V;rw[V];exact H) (grpT t x y).1 (grpT t x y).2 [] (by have:=grp_len t x y;show(QaA (grpOf t x y)).length<=60;omega) (Qgz (Qbo hc)) (grp_cols D I K Z H he) (fun W hW=>?_);obtain⟨nb,no,cc,e,U,s0,s1⟩:=(strs_two Z).below hW;refine(rowsOf_group_ok tb h 1 tcap nb no cc _ _ vc vr t.1 t.2 x y j W D I e U s0 s1 hp hq (by decide) (Nat.lt_of_lt_of_le F hW.size) ((hW.cell (p:=⟨tb,h,none⟩) F).trans (by simpa using c0)) ((hW.cell (p:=⟨tb,h+1,none⟩) F).trans (by simpa using c1)) (hc.below hW) (J.below hW) aa (by omega) N (by omega) (Qe3 H he) (Qdp J) hS).mono ?_;rintro e w' ⟨v1,ab,h1,h2,h3,hb⟩;exact⟨v1,.slice none 0 0,ab,[],h1,h2,h3,World.ownsRow_nil _ _ _ _,Qab.nil _ _,hb⟩
end Go.Proofs.YtjlgejennghhlaaGreatDoor
