import Derived.Test.YtofidnijfnhpaaaGreatDoorQ01
import Derived.Test.YtofidnijfnhpaaaGreatDoorQ44
import Derived.Test.YtofidnijfnhpaaaGreatDoorQ35
import Derived.Test.YtofidnijfnhpaaaGreatDoorQ34
import Derived.Test.YtofidnijfnhpaaaGreatDoorQ36
import Derived.Test.YtofidnijfnhpaaaGreatDoorQ38
import Derived.Test.YtofidnijfnhpaaaGreatDoorQ37
import Derived.Test.YtofidnijfnhpaaaGreatDoorQ23
import Derived.Test.YtofidnijfnhpaaaGreatDoorQ21
import Derived.Test.YtofidnijfnhpaaaGreatDoorQ20
import Derived.Test.YtofidnijfnhpaaaGreatDoorQ15
set_option linter.unusedSimpArgs false
set_option linter.unusedVariables false
set_option linter.unusedSectionVars false
set_option maxRecDepth 1000000
set_option maxHeartbeats 16000000
namespace Go.Proofs.YtofidnijfnhpaaaGreatDoor
open Go.RowKit
def QlR (e:Ending) (w':World) (B:Nat) (no:Int) (mk:Nat) (cs:List Cl):Prop:=(no≠0/\e=.returned (.tuple #[.slice none 0 0,Qbp no]))\/(no=0/\∃v us,e=.returned (.tuple #[v,.nilIface])/\w'.ownsRow B 33 1 v mk us/\Qbi w' B us cs)
structure ColsBoth (w:World) (j:Jb) (css:List (List Cl)) (mk:Nat) (no:Int) (cs:List Cl):Prop where
 ref:∀W g cap,Below w.heap.size w W->g<W.heap.size->Qbz W g 0 css->Calls Tryz.prog 9 #[.agg j.cells,.slice (some ⟨g,0,none⟩) css.length cap] W fun e w'=>QaO e w' W.heap.size no (List.replicate mk cs)/\Below W.heap.size W w'
 ops:∀W g cap,Below w.heap.size w W->g<W.heap.size->Qbz W g 0 css->Calls Tryz.prog 10 #[.agg j.cells,.slice (some ⟨g,0,none⟩) css.length cap] W fun e w'=>QlR e w' W.heap.size no mk cs/\Below W.heap.size W w'
structure JobIn (w:World) (j:Jb) (ss:List ByteArray) (m:Nat):Prop where
 env:Env w
 op:j.op.size<=1000000
 left:j.left.2.2.2.size<=maxLen
 right:j.right.2.2.2.size<=maxLen
 cols:QaX w j.cols ss
 few:ss.length<=100
 outs:∃oa oc,j.outs=.slice oa m oc
theorem QaO.to {e:Ending} {q:World} {B:Nat} {no:Int} {css j:List (List Cl)} (h:QaO e q B no css) (y:no=0->css=j):QaO e q B no j:=by
 rcases h with h|⟨o,h⟩
 ·exact Or.inl h
 ·exact Or.inr ⟨o,by rw[<-y o];exact h⟩
theorem QaV {cs:List Cl} (h:Qah cs=true):1<=cs.length/\cs.length<=6:=by
 obtain⟨j,o,-,-⟩:=Qar (show Qan cs []=true by simp[Qan,h])
 exact⟨j,o⟩
theorem QbN {W:World} {g:Nat} {cs:List Cl} {css:List (List Cl)} (h:Qbz W g 0 (cs::css)) (z:1<=cs.length):∃b o c,W.cell? ⟨g,0,none⟩=some (.slice (some ⟨b,o,none⟩) cs.length c)/\cs.length<=c/\b<W.heap.size/\Qas W b o cs/\∀x∈cs,x.1.size<=maxLen:=by
 obtain⟨u,y,D⟩:=h 0 (by simp)
 obtain⟨b,o,c,rfl,B,q,A,j⟩:=QdV D z
 exact⟨b,o,c,y,B,q,A,j⟩
theorem QiT {W:World} {g:Nat} {cs j:List Cl} (h:Qbz W g 0 [cs,j]) (A:1<=j.length):∃b o c,W.cell? ⟨g,0+1,none⟩=some (.slice (some ⟨b,o,none⟩) j.length c)/\j.length<=c/\b<W.heap.size/\Qas W b o j/\∀x∈j,x.1.size<=maxLen:=by
 obtain⟨u,z,E⟩:=h 1 (by simp)
 obtain⟨b,o,c,rfl,D,y,B,q⟩:=QdV E A
 exact⟨b,o,c,z,D,y,B,q⟩
theorem Qbj (z A:Option Addr) (o B:Nat) (j:Jb) (q y:Nat) (n:Int) (cs:List Cl) (W:World) (K:j.outs=.slice A y B) (I:QaP j.code=((q:Int),(y:Int))) (F:q≠0) (M:y<=2)
 (J:∀V,Below W.heap.size W V->Calls Tryz.prog 26 #[.agg j.cells,.slice z q o] V fun e h=>e=.returned (Qbp n)/\Below V.heap.size V h)
 (O:n=0->∀V,Below W.heap.size W V->Calls Tryz.prog 27 #[.agg j.cells,.slice z q o] V fun e h=>∃u,e=.returned u/\h.ownsRow V.heap.size 56 2 u cs.length (Qap cs)/\Below V.heap.size V h):
 Calls Tryz.prog 10 #[.agg j.cells,.slice z q o] W fun e h=>QlR e h W.heap.size n y cs/\Below W.heap.size W h:=by
 by_cases hn:n=0
 ·refine(Qde z A o B j q y cs W K I F M (fun V hV=>?_) (O hn)).mono ?_
  ·have:=J V hV
   rw[hn,Qdp] at this
   exact this
  ·rintro e h ⟨v,us,D,E,N,T⟩
   exact⟨Or.inr ⟨hn,v,us,D,E,N⟩,T⟩
 ·refine(Qeb z A o B j q y n W K I F hn J).mono ?_
  rintro e h ⟨D,E⟩
  exact⟨Or.inl ⟨hn,D⟩,E⟩
theorem QgV {w:World} {j:Jb} {ss:List ByteArray} {m:Nat} (I:JobIn w j ss m) (css:List (List Cl)) (h o:Nat) (B:QaP j.code=((h:Int),(o:Int))) (z:css.length<=1000) (J:m<=1000) (D:h<=2) (F:o<=2) (q:h=0\/css.length≠h\/m≠o):ColsBoth w j css 0 1 []:=by
 obtain⟨y,A,E⟩:=I.outs
 refine⟨fun W g cap hW hg hh=>QeP _ y css.length cap m A j h o W E B z J D F q,fun W g cap hW hg hh=>?_⟩
 refine(QfD _ y css.length cap m A j h o W E B q).mono ?_
 rintro e N ⟨K,M⟩
 exact⟨Or.inl ⟨by decide,K⟩,M⟩
theorem QdW {w:World} {j:Jb} {ss:List ByteArray} {cs:List Cl} (y:JobIn w j ss 1) (q:j.code=1) (J:Qah cs=true):ColsBoth w j [cs] 1 (Qax cs j) (cs):=by
 obtain⟨B,K⟩:=QaV J
 obtain⟨D,E,F⟩:=y.outs
 refine⟨fun W g cap hW hg hh=>?_,fun W g cap hW hg hh=>?_⟩
 ·obtain⟨b,o,c,c0,I,A,z,hsz⟩:=QbN hh B
  exact(QhA g 0 cap b o cs.length c E D cs ss j W hg c0 (y.cols.below hW) y.few rfl B (by omega) I A z hsz q F (y.env.below hW) y.op y.right).mono fun e w' h=>⟨h.1.to (fun _=>rfl),h.2⟩
 ·obtain⟨b,o,c,c0,I,A,z,hsz⟩:=QbN hh B
  refine Qbj _ D cap E j 1 1 _ (cs) W F (by rw[q];rfl) (by decide) (by decide) (fun W' hW'=>?_) (fun he W' hW'=>?_)
  ·exact QdL g 0 1 cap b o cs.length c cs j W' (Or.inl q) (by decide) (Nat.lt_of_lt_of_le hg hW'.size) (cK hW' hg c0) rfl (by omega) (Nat.lt_of_lt_of_le A hW'.size) (z.below hW' A) y.right
  ·exact Qa4 g 0 1 cap b o cs.length c cs j W' (Or.inl q) (by decide) (Nat.lt_of_lt_of_le hg hW'.size) (cK hW' hg c0) rfl (by omega) (Nat.lt_of_lt_of_le A hW'.size) (z.below hW' A)
theorem QdX {w:World} {j:Jb} {ss:List ByteArray} {cs:List Cl} (y:JobIn w j ss 2) (q:j.code=9) (J:Qah cs=true):ColsBoth w j [cs] 2 (Qax cs j) (cs):=by
 obtain⟨B,K⟩:=QaV J
 obtain⟨D,E,F⟩:=y.outs
 refine⟨fun W g cap hW hg hh=>?_,fun W g cap hW hg hh=>?_⟩
 ·obtain⟨b,o,c,c0,I,A,z,hsz⟩:=QbN hh B
  exact(Qhz g 0 cap b o cs.length c E D cs ss j W hg c0 (y.cols.below hW) y.few rfl B (by omega) I A z hsz q F (y.env.below hW) y.op y.right).mono fun e w' h=>⟨h.1.to (fun _=>rfl),h.2⟩
 ·obtain⟨b,o,c,c0,I,A,z,hsz⟩:=QbN hh B
  refine Qbj _ D cap E j 1 2 _ (cs) W F (by rw[q];rfl) (by decide) (by decide) (fun W' hW'=>?_) (fun he W' hW'=>?_)
  ·exact QdL g 0 1 cap b o cs.length c cs j W' (Or.inr q) (by decide) (Nat.lt_of_lt_of_le hg hW'.size) (cK hW' hg c0) rfl (by omega) (Nat.lt_of_lt_of_le A hW'.size) (z.below hW' A) y.right
  ·exact Qa4 g 0 1 cap b o cs.length c cs j W' (Or.inr (Or.inl q)) (by decide) (Nat.lt_of_lt_of_le hg hW'.size) (cK hW' hg c0) rfl (by omega) (Nat.lt_of_lt_of_le A hW'.size) (z.below hW' A)
theorem Qfq {w:World} {j:Jb} {ss:List ByteArray} {cs:List Cl} (y:JobIn w j ss 1) (q:j.code=2) (N:Qah cs=true) (I:ss.length≠1):ColsBoth w j [cs] 1 (1) (cs):=by
 obtain⟨A,T⟩:=QaV N
 obtain⟨B,E,F⟩:=y.outs
 refine⟨fun W g cap hW hg hh=>?_,fun W g cap hW hg hh=>?_⟩
 ·obtain⟨b,o,c,c0,J,D,z,hsz⟩:=QbN hh A
  exact(QhB g 0 cap b o cs.length c E B cs ss j W hg c0 (y.cols.below hW) y.few rfl A (by omega) J D z hsz q F (y.env.below hW) y.op y.left y.right I).mono fun e w' h=>⟨h.1.to (fun _=>rfl),h.2⟩
 ·obtain⟨b,o,c,c0,J,D,z,hsz⟩:=QbN hh A
  refine Qbj _ B cap E j 1 1 _ (cs) W F (by rw[q];rfl) (by decide) (by decide) (fun W' hW'=>?_) (fun he W' hW'=>?_)
  ·obtain⟨O,M,K,-⟩:=y.cols
   exact Qfh g 0 1 cap b o cs.length c j _ W' q (by decide) (Nat.lt_of_lt_of_le hg hW'.size) (cK hW' hg c0) (fun V hV=>Qix _ O _ _ ss.length M j V K I)
  ·exact absurd he (by decide)
theorem Qfr {w:World} {j:Jb} {ss:List ByteArray} {cs:List Cl} (y:JobIn w j ss 1) (q:j.code=2) (O:Qah cs=true) (K:ss.length=1) (z:inS QaF j.op.data.toList=false):ColsBoth w j [cs] 1 (1) (cs):=by
 obtain⟨D,U⟩:=QaV O
 obtain⟨E,I,J⟩:=y.outs
 refine⟨fun W g cap hW hg hh=>?_,fun W g cap hW hg hh=>?_⟩
 ·obtain⟨b,o,c,c0,M,F,B,hsz⟩:=QbN hh D
  exact(QhE g 0 cap b o cs.length c I E cs ss j W hg c0 (y.cols.below hW) y.few rfl D (by omega) M F B hsz q J (y.env.below hW) y.op y.left y.right K z).mono fun e w' h=>⟨h.1.to (fun _=>rfl),h.2⟩
 ·obtain⟨b,o,c,c0,M,F,B,hsz⟩:=QbN hh D
  refine Qbj _ E cap I j 1 1 _ (cs) W J (by rw[q];rfl) (by decide) (by decide) (fun W' hW'=>?_) (fun he W' hW'=>?_)
  ·obtain⟨T,N,A,-⟩:=y.cols
   rw[K] at A
   exact Qfh g 0 1 cap b o cs.length c j _ W' q (by decide) (Nat.lt_of_lt_of_le hg hW'.size) (cK hW' hg c0) (fun V hV=>Qiy _ T _ _ N j V A z)
  ·exact absurd he (by decide)
theorem QfX {w:World} {v:Value} {x:ByteArray} (h:QaX w v [x]):∃nb no cc,v=.slice (some ⟨nb,no,none⟩) 1 cc/\nb<w.heap.size/\w.cell? ⟨nb,no,none⟩=some (.string x):=by
 obtain⟨a,c,rfl,-,-,h|⟨b,o,rfl,q,j⟩⟩:=h
 ·cases h
 ·exact⟨b,o,c,rfl,q,by simpa using j 0 (by simp)⟩
theorem QfY {w:World} {j:Jb} {ss:List ByteArray} {cs:List Cl} (y:JobIn w j ss 1) (q:j.code=2) (Z:Qah cs=true) (x:ByteArray) (F:ss=[x]) (D:inS QaF j.op.data.toList=true):ColsBoth w j [cs] 1 (Qa8 cs j x.data.toList) (cs):=by
 obtain⟨E,h6⟩:=QaV Z
 obtain⟨I,K,N⟩:=y.outs
 refine⟨fun W g cap hW hg hh=>?_,fun W g cap hW hg hh=>?_⟩
 ·obtain⟨b,o,c,c0,M,A,z,hsz⟩:=QbN hh E
  exact(QjM g 0 cap b o cs.length c K I cs ss j W hg c0 (y.cols.below hW) y.few rfl E (by omega) M A z hsz q N (y.env.below hW) y.op y.left y.right x F D).mono fun e w' h=>⟨h.1.to (fun _=>rfl),h.2⟩
 ·obtain⟨b,o,c,c0,M,A,z,hsz⟩:=QbN hh E
  refine Qbj _ I cap K j 1 1 _ (cs) W N (by rw[q];rfl) (by decide) (by decide) (fun W' hW'=>?_) (fun he W' hW'=>?_)
  ·have B:=y.cols
   rw[F] at B
   obtain⟨U,no,V,J,O,T⟩:=QfX ((B.below hW).below hW')
   exact Qev g 0 1 cap b o cs.length c U no V cs x j W' q (by decide) (Nat.lt_of_lt_of_le hg hW'.size) (cK hW' hg c0) J O T D rfl (by omega) (Nat.lt_of_lt_of_le A hW'.size) (z.below hW' A) y.left y.right
  ·exact Qa4 g 0 1 cap b o cs.length c cs j W' (Or.inr (Or.inr (Or.inl q))) (by decide) (Nat.lt_of_lt_of_le hg hW'.size) (cK hW' hg c0) rfl (by omega) (Nat.lt_of_lt_of_le A hW'.size) (z.below hW' A)
theorem QdY {w:World} {j:Jb} {ss:List ByteArray} {cs:List Cl} (A:JobIn w j ss 1) (q:j.code=3) (J:Qah cs=true):ColsBoth w j [cs] 1 (QaB cs ss) (QaT (Qag cs ss) cs):=by
 obtain⟨B,K⟩:=QaV J
 obtain⟨D,E,F⟩:=A.outs
 refine⟨fun W g cap hW hg hh=>?_,fun W g cap hW hg hh=>?_⟩
 ·obtain⟨b,o,c,c0,I,z,y,hsz⟩:=QbN hh B
  exact(Qhw g 0 cap b o cs.length c E D cs ss j W hg c0 (A.cols.below hW) A.few rfl B (by omega) I z y hsz q F).mono fun e w' h=>⟨h.1.to (fun _=>rfl),h.2⟩
 ·obtain⟨b,o,c,c0,I,z,y,hsz⟩:=QbN hh B
  refine Qbj _ D cap E j 1 1 _ (QaT (Qag cs ss) cs) W F (by rw[q];rfl) (by decide) (by decide) (fun W' hW'=>?_) (fun he W' hW'=>?_)
  ·exact Qfa g 0 1 cap b o cs.length c cs ss j W' q (by decide) (Nat.lt_of_lt_of_le hg hW'.size) (cK hW' hg c0) ((A.cols.below hW).below hW') rfl (by omega) (Nat.lt_of_lt_of_le z hW'.size) (y.below hW' z)
  ·exact Qd6 g 0 1 cap b o cs.length c cs ss j W' q (by decide) (Nat.lt_of_lt_of_le hg hW'.size) (cK hW' hg c0) ((A.cols.below hW).below hW') (he) rfl (by omega) (Nat.lt_of_lt_of_le z hW'.size) (y.below hW' z)
theorem QdZ {w:World} {j:Jb} {ss:List ByteArray} {cs:List Cl} (A:JobIn w j ss 1) (q:j.code=4) (J:Qah cs=true):ColsBoth w j [cs] 1 (QaB cs ss) (cs):=by
 obtain⟨B,K⟩:=QaV J
 obtain⟨D,E,F⟩:=A.outs
 refine⟨fun W g cap hW hg hh=>?_,fun W g cap hW hg hh=>?_⟩
 ·obtain⟨b,o,c,c0,I,z,y,hsz⟩:=QbN hh B
  exact(Qhx g 0 cap b o cs.length c E D cs ss j W hg c0 (A.cols.below hW) A.few rfl B (by omega) I z y hsz q F).mono fun e w' h=>⟨h.1.to (fun _=>rfl),h.2⟩
 ·obtain⟨b,o,c,c0,I,z,y,hsz⟩:=QbN hh B
  refine Qbj _ D cap E j 1 1 _ (cs) W F (by rw[q];rfl) (by decide) (by decide) (fun W' hW'=>?_) (fun he W' hW'=>?_)
  ·exact Qfd g 0 1 cap b o cs.length c cs ss j W' q (by decide) (Nat.lt_of_lt_of_le hg hW'.size) (cK hW' hg c0) ((A.cols.below hW).below hW') rfl (by omega) (Nat.lt_of_lt_of_le z hW'.size) (y.below hW' z)
  ·exact Qa4 g 0 1 cap b o cs.length c cs j W' (Or.inr (Or.inr (Or.inr (Or.inl q)))) (by decide) (Nat.lt_of_lt_of_le hg hW'.size) (cK hW' hg c0) rfl (by omega) (Nat.lt_of_lt_of_le z hW'.size) (y.below hW' z)
theorem QgW {w:World} {j:Jb} {ss:List ByteArray} {cs:List Cl} (A:JobIn w j ss 1) (q:j.code=6) (J:Qah cs=true):ColsBoth w j [cs] 1 (0) (cs):=by
 obtain⟨B,K⟩:=QaV J
 obtain⟨D,E,F⟩:=A.outs
 refine⟨fun W g cap hW hg hh=>?_,fun W g cap hW hg hh=>?_⟩
 ·obtain⟨b,o,c,c0,I,z,y,hsz⟩:=QbN hh B
  exact(QiN g 0 cap b o cs.length c E D cs ss j W hg c0 (A.cols.below hW) A.few rfl B (by omega) I z y hsz q F).mono fun e w' h=>⟨h.1.to (fun _=>rfl),h.2⟩
 ·obtain⟨b,o,c,c0,I,z,y,hsz⟩:=QbN hh B
  refine Qbj _ D cap E j 1 1 _ (cs) W F (by rw[q];rfl) (by decide) (by decide) (fun W' hW'=>?_) (fun he W' hW'=>?_)
  ·rw[Qdp]
   exact QiB none g 0 1 cap _ j W' q (by decide) (Nat.lt_of_lt_of_le hg hW'.size) (cK hW' hg c0)
  ·exact Qa4 g 0 1 cap b o cs.length c cs j W' (Or.inr (Or.inr (Or.inr (Or.inr (Or.inr (q)))))) (by decide) (Nat.lt_of_lt_of_le hg hW'.size) (cK hW' hg c0) rfl (by omega) (Nat.lt_of_lt_of_le z hW'.size) (y.below hW' z)
theorem Qfs {w:World} {j:Jb} {ss:List ByteArray} {cs:List Cl} (y:JobIn w j ss 1) (q:j.code=8) (N:Qah cs=true) (I:ss.length≠2):ColsBoth w j [cs] 1 (1) (cs):=by
 obtain⟨A,T⟩:=QaV N
 obtain⟨B,E,F⟩:=y.outs
 refine⟨fun W g cap hW hg hh=>?_,fun W g cap hW hg hh=>?_⟩
 ·obtain⟨b,o,c,c0,J,D,z,hsz⟩:=QbN hh A
  exact(QhD g 0 cap b o cs.length c E B cs ss j W hg c0 (y.cols.below hW) y.few rfl A (by omega) J D z hsz q F (y.env.below hW) y.op I).mono fun e w' h=>⟨h.1.to (fun _=>rfl),h.2⟩
 ·obtain⟨b,o,c,c0,J,D,z,hsz⟩:=QbN hh A
  refine Qbj _ B cap E j 1 1 _ (cs) W F (by rw[q];rfl) (by decide) (by decide) (fun W' hW'=>?_) (fun he W' hW'=>?_)
  ·obtain⟨O,M,K,-⟩:=y.cols
   exact QcU g 0 1 cap b o cs.length c j _ W' q (by decide) (Nat.lt_of_lt_of_le hg hW'.size) (cK hW' hg c0) (fun V hV=>Qgw _ O _ _ ss.length M j V K I)
  ·exact absurd he (by decide)
theorem Qln {x:ByteArray} (h:x.data.toList=[115,117,109]):x=⟨#[115,117,109]⟩:=by
 cases x with |mk a=>cases a with |mk l=>simp at h;rw[h]
theorem Qlo {x:ByteArray} (h:x.data.toList=[109,97,120]):x=⟨#[109,97,120]⟩:=by
 cases x with |mk a=>cases a with |mk l=>simp at h;rw[h]
theorem Qft {w:World} {j:Jb} {ss:List ByteArray} {cs:List Cl} (y:JobIn w j ss 1) (q:j.code=8) (O:Qah cs=true) (K:ss.length=2) (z:(decide (j.op.data.toList=[115,117,109])||decide (j.op.data.toList=[109,97,120]))=false):ColsBoth w j [cs] 1 (1) (cs):=by
 obtain⟨D,U⟩:=QaV O
 obtain⟨E,I,J⟩:=y.outs
 refine⟨fun W g cap hW hg hh=>?_,fun W g cap hW hg hh=>?_⟩
 ·obtain⟨b,o,c,c0,M,F,B,hsz⟩:=QbN hh D
  exact(QhC g 0 cap b o cs.length c I E cs ss j W hg c0 (y.cols.below hW) y.few rfl D (by omega) M F B hsz q J (y.env.below hW) y.op K z).mono fun e w' h=>⟨h.1.to (fun _=>rfl),h.2⟩
 ·obtain⟨b,o,c,c0,M,F,B,hsz⟩:=QbN hh D
  refine Qbj _ E cap I j 1 1 _ (cs) W J (by rw[q];rfl) (by decide) (by decide) (fun W' hW'=>?_) (fun he W' hW'=>?_)
  ·obtain⟨T,N,A,-⟩:=y.cols
   rw[K] at A
   simp only[Bool.or_eq_false_iff,decide_eq_false_iff_not] at z
   exact QcU g 0 1 cap b o cs.length c j _ W' q (by decide) (Nat.lt_of_lt_of_le hg hW'.size) (cK hW' hg c0) (fun V hV=>Qgx _ T _ _ N j V A (fun e=>z.1 (by rw[e])) (fun e=>z.2 (by rw[e])))
  ·exact absurd he (by decide)
theorem QfZ {w:World} {j:Jb} {ss:List ByteArray} {cs:List Cl} (E:JobIn w j ss 1) (q:j.code=8) (hr:Qah cs=true) (x y:ByteArray) (J:ss=[x,y]) (F:(decide (j.op.data.toList=[115,117,109])||decide (j.op.data.toList=[109,97,120]))=true):ColsBoth w j [cs] 1 (QaG cs x y) (QaT (Qag cs [x,y]) cs):=by
 obtain⟨K,h6⟩:=QaV hr
 obtain⟨M,O,ho⟩:=E.outs
 refine⟨fun W g cap hW hg hh=>?_,fun W g cap hW hg hh=>?_⟩
 ·obtain⟨b,o,c,c0,U,D,A,hsz⟩:=QbN hh K
  exact(QjL g 0 cap b o cs.length c O M cs ss j W hg c0 (E.cols.below hW) E.few rfl K (by omega) U D A hsz q ho (E.env.below hW) E.op x y J F).mono fun e w' h=>⟨h.1.to (fun _=>rfl),h.2⟩
 ·obtain⟨b,o,c,c0,U,D,A,hsz⟩:=QbN hh K
  refine Qbj _ M cap O j 1 1 _ (QaT (Qag cs [x,y]) cs) W ho (by rw[q];rfl) (by decide) (by decide) (fun W' hW'=>?_) (fun he W' hW'=>?_)
  ·have z:=E.cols
   rw[J] at z
   refine QcU g 0 1 cap b o cs.length c j _ W' q (by decide) (Nat.lt_of_lt_of_le hg hW'.size) (cK hW' hg c0) (fun V hV=>?_)
   have B:=Qaa hW' hV
   obtain⟨Z,no,cc,I,N,T,s1⟩:=(QbW z).below (Qaa hW B)
   simp only[Bool.or_eq_true,decide_eq_true_eq] at F
   rcases F with F|F
   ·exact group_any b o cs.length c Z no cc cs x y j V I (Qln F) N T s1 rfl (by omega) (Nat.lt_of_lt_of_le D B.size) (A.below B D)
   ·exact Mx.group_any b o cs.length c Z no cc cs x y j V I (Qlo F) N T s1 rfl (by omega) (Nat.lt_of_lt_of_le D B.size) (A.below B D)
  ·have z:=E.cols
   rw[J] at z
   exact QcB g 0 1 cap b o cs.length c cs [x,y] j W' q (by decide) (Nat.lt_of_lt_of_le hg hW'.size) (cK hW' hg c0) ((z.below hW).below hW') (Qee he) rfl (by omega) (Nat.lt_of_lt_of_le D hW'.size) (A.below hW' D)
theorem Qf0 {w:World} {j:Jb} {ss:List ByteArray} {cs D:List Cl} (I:JobIn w j ss 1) (q:j.code=5) (Z:Qah cs=true) (N:Qah D=true):ColsBoth w j [cs,D] 1 (Qcj cs D) (cs):=by
 obtain⟨J,h6⟩:=QaV Z
 obtain⟨K,k6⟩:=QaV N
 obtain⟨M,T,V⟩:=I.outs
 refine⟨fun W g cap hW hg hh=>?_,fun W g cap hW hg hh=>?_⟩
 ·obtain⟨b,o,c,c0,U,B,z,hsz⟩:=QbN hh J
  obtain⟨b2,F,c2,c1,O,A,y,E⟩:=QiT hh K
  exact(Qhy g 0 cap b o cs.length c T M cs ss j W hg c0 (I.cols.below hW) I.few rfl J (by omega) U B z hsz b2 F D.length c2 D c1 rfl (by omega) A y E q V).mono fun e w' h=>⟨h.1.to (fun _=>rfl),h.2⟩
 ·obtain⟨b,o,c,c0,U,B,z,hsz⟩:=QbN hh J
  obtain⟨b2,F,c2,c1,O,A,y,E⟩:=QiT hh K
  refine Qbj _ M cap T j 2 1 _ (cs) W V (by rw[q];rfl) (by decide) (by decide) (fun W' hW'=>?_) (fun he W' hW'=>?_)
  ·exact Qhh g 0 cap b o c b2 F c2 cs D j W' q (Nat.lt_of_lt_of_le hg hW'.size) (cK hW' hg c0) (cK hW' hg c1) (by omega) (by omega) (Nat.lt_of_lt_of_le B hW'.size) (Nat.lt_of_lt_of_le A hW'.size) (z.below hW' B) (y.below hW' A)
  ·exact Qa4 g 0 2 cap b o cs.length c cs j W' (Or.inr (Or.inr (Or.inr (Or.inr (Or.inl q))))) (by decide) (Nat.lt_of_lt_of_le hg hW'.size) (cK hW' hg c0) rfl (by omega) (Nat.lt_of_lt_of_le B hW'.size) (z.below hW' B)
theorem QeT {w:World} {j:Jb} {ss:List ByteArray} {cs y:List Cl} (B:JobIn w j ss 1) (q:j.code=7) (hr:Qah cs=true) (M:Qah y=true) (Z:ss.length≠2):ColsBoth w j [cs,y] 1 (1) ([]):=by
 obtain⟨I,h6⟩:=QaV hr
 obtain⟨J,k6⟩:=QaV M
 obtain⟨K,U,ho⟩:=B.outs
 refine⟨fun W g cap hW hg hh=>?_,fun W g cap hW hg hh=>?_⟩
 ·obtain⟨b,o,c,c0,hc,T,D,hsz⟩:=QbN hh I
  obtain⟨b2,F,c2,c1,N,E,z,A⟩:=QiT hh J
  exact(Qe1 g 0 cap b o cs.length c U K cs ss j W hg c0 (B.cols.below hW) B.few rfl I (by omega) hc T D hsz b2 F y.length c2 y c1 rfl (by omega) E z A q ho Z).mono fun e w' h=>⟨h.1.to (fun _=>rfl),h.2⟩
 ·obtain⟨b,o,c,c0,hc,T,D,hsz⟩:=QbN hh I
  obtain⟨b2,F,c2,c1,N,E,z,A⟩:=QiT hh J
  refine Qbj _ K cap U j 2 1 _ ([]) W ho (by rw[q];rfl) (by decide) (by decide) (fun W' hW'=>?_) (fun he W' hW'=>?_)
  ·obtain⟨ca,cc,O,-⟩:=B.cols
   exact Qfg g 0 cap b o cs.length c b2 F y.length c2 j _ W' q (Nat.lt_of_lt_of_le hg hW'.size) (cK hW' hg c0) (cK hW' hg c1) (fun V hV=>Qhl _ _ ca _ _ _ _ ss.length cc j V O Z)
  ·exact absurd he (by decide)
theorem QeU {w:World} {j:Jb} {ss:List ByteArray} {cs q:List Cl} (N:JobIn w j ss 1) (A:j.code=7) (hr:Qah cs=true) (af:Qah q=true) (x y:ByteArray) (Z:ss=[x,y]):ColsBoth w j [cs,q] 1 (QaQ cs q x y) (Qb0 cs q (pOf q y)):=by
 obtain⟨U,h6⟩:=QaV hr
 obtain⟨k1,k6⟩:=QaV af
 obtain⟨oa,oc,ho⟩:=N.outs
 refine⟨fun W g cap hW hg hh=>?_,fun W g cap hW hg hh=>?_⟩
 ·obtain⟨b,o,c,c0,hc,K,J,hsz⟩:=QbN hh U
  obtain⟨b2,M,c2,c1,O,B,D,I⟩:=QiT hh k1
  exact(QiO g 0 cap b o cs.length c oc oa cs ss j W hg c0 (N.cols.below hW) N.few rfl U (by omega) hc K J hsz b2 M q.length c2 q c1 rfl (by omega) B D I A ho x y Z hr).mono fun e w' h=>⟨h.1.to (fun _=>rfl),h.2⟩
 ·obtain⟨b,o,c,c0,hc,K,J,hsz⟩:=QbN hh U
  obtain⟨b2,M,c2,c1,O,B,D,I⟩:=QiT hh k1
  refine Qbj _ oa cap oc j 2 1 _ (Qb0 cs q (pOf q y)) W ho (by rw[A];rfl) (by decide) (by decide) (fun W' hW'=>?_) (fun he W' hW'=>?_)
  ·have E:=N.cols
   rw[Z] at E
   refine Qfg g 0 cap b o cs.length c b2 M q.length c2 j _ W' A (Nat.lt_of_lt_of_le hg hW'.size) (cK hW' hg c0) (cK hW' hg c1) (fun V hV=>?_)
   have F:=Qaa hW' hV
   obtain⟨nb,no,cc,T,hn,s0,s1⟩:=(QbW E).below (Qaa hW F)
   exact QkA b o cs.length c b2 M q.length c2 nb no cc cs q x y j V T hn s0 s1 rfl U (by omega) (Nat.lt_of_lt_of_le K F.size) (J.below F K) rfl (by omega) O (Nat.lt_of_lt_of_le B F.size) (D.below F B) (fun z hz=>by
    rcases List.mem_append.1 hz with h|h
    ·exact hsz z h
    ·exact I z h)
  ·have E:=N.cols
   rw[Z] at E
   obtain⟨nb,no,cc,T,hn,s0,s1⟩:=(QbW E).below (Qaa hW hW')
   exact Qgq g 0 cap b o c b2 M c2 nb no cc (pOf q y) cs q y j W' A T hn s1 (Nat.lt_of_lt_of_le hg hW'.size) (cK hW' hg c0) (cK hW' hg c1) (QeE he).2 (by omega) (Nat.lt_of_lt_of_le K hW'.size) (J.below hW' K) (by omega) O (Nat.lt_of_lt_of_le B hW'.size) (D.below hW' B)
theorem QbL {P:Program} {ops:Array Oper} {o:Oper} {a:Act} {w:World} {K:Act->World->Prop} {Q:Exit->Act->World->Prop} {E:Prop} (U:o.guard=none) (s x:Operand) (t:TypeId)
 (ho:o.op=.call {callee:=.builtin .append,args:=#[s,x],argTypes:=#[t,t]})
 (base:Nat) (e:TypeId) (i:TypeInfo) (z:Value) (size y:Nat) (ht:P.underlying t=some (.slice e)) (Z:P.info? e=some i) (hz:i.zero=some z)
 (F:i.size=size) (T:i.bytes=y) (N:z.cells.size=size) (hsz:0<size)
 (v:Value) (n:Nat) (I:List Value) (hs:a.eval s=v) (M:w.ownsRow base e size v n I)
 (J:Addr) (m c:Nat) (q:List Value) (V:a.eval x=.slice (some J) m c) (hl:q.length=m*size) (D:∀j u,q[j]? =some u->w.cell? (J.add j)=some u) (h1:∀u∈q,u.oneCell'=true)
 (O:n+m<=maxLen) (A:(n+m)*y<=140737488355328) (B:base<=w.heap.size)
 (h:∀v' w',w'.ownsRow base e size v' (n+m) (I++q)->w.grownBy w' v.ownBlock->(v'=.slice none 0 0↔v=.slice none 0 0/\m=0)->K (a.put o.dst v') w'):
 if Region.wanted o (yielded ops a.tmps)=true then Oper.wp P o a w K Q else E:=by
 rw[if_pos (by simp[Region.wanted,U])]
 exact wp_append_own w s x t ho base e i z size y ht Z hz F T N hsz v n I hs M J m c q V hl D h1 O A B h
theorem Qea {P:Program} {ops:Array Oper} {o:Oper} {a:Act} {w:World} {K:Act->World->Prop} {Q:Exit->Act->World->Prop} {E:Prop} (N:o.guard=none) (s x:Operand) (t:TypeId)
 (ho:o.op=.call {callee:=.builtin .append,args:=#[s,x],argTypes:=#[t,t]})
 (base:Nat) (e:TypeId) (i:TypeInfo) (z:Value) (size y:Nat) (ht:P.underlying t=some (.slice e)) (V:P.info? e=some i) (hz:i.zero=some z)
 (J:i.size=size) (ac:i.bytes=y) (aa:z.cells.size=size) (hsz:0<size)
 (v:Value) (n:Nat) (I:List Value) (Z:a.eval s=v) (A:w.ownsRow base e size v n I)
 (T:Option Addr) (m c:Nat) (q:List Value) (U:a.eval x=.slice T m c) (hl:q.length=m*size) (hj:(∃M,T=some M/\∀j u,q[j]? =some u->w.cell? (M.add j)=some u)\/(T=none/\m=0/\c=0)) (h1:∀u∈q,u.oneCell'=true)
 (ae:n+m<=maxLen) (B:(n+m)*y<=140737488355328) (D:base<=w.heap.size)
 (h:∀v' w',w'.ownsRow base e size v' (n+m) (I++q)->w.grownBy w' v.ownBlock->K (a.put o.dst v') w'):
 if Region.wanted o (yielded ops a.tmps)=true then Oper.wp P o a w K Q else E:=by
 rcases hj with ⟨M,rfl,F⟩|⟨rfl,rfl,rfl⟩
 ·exact QbL N s x t ho base e i z size y ht V hz J ac aa hsz v n I Z A M m c q U hl F h1 ae B D (fun v' w' a b _=>h v' w' a b)
 ·obtain rfl:q=[]:=List.eq_nil_of_length_eq_zero (by rw[hl];omega)
  rw[if_pos (by simp[Region.wanted,N])]
  have O:=run_append_owned_none (P:=P) (w:=w) base t o.type e i size ht V v n I A
  have hk:=h v w (by rw[List.append_nil];exact A) ⟨rfl,rfl,rfl,Nat.le_refl _,fun _ _ _=>rfl⟩
  unfold Oper.wp
  simp[execOp,ho,resolve,invoke,builtin,Z,U,O,Result.andThen]
  exact hk
theorem Qmf {w:World} {j:Jb} {ss:List ByteArray} (c:List Cl) {tA tB:Tb} {vcA vcB vrB:Value} (J:j.code=5) {rs:List (List Vl)} (hM:rs.length<=100) (bB:tB.2.length<=100) (aM:QfN vrB):Qco w j ss [c] tA tB vcA vcB vrB (rs) (fun e w'=>Qbf e w' w.heap.size (Qbl 5 [rs++tB.2]) [(c,rs++tB.2)]/\Below w.heap.size w w'):=by
 iterate 317 intro _
 intro jb gc cc A Bx q R mp vw v1 W B
 have e1:=B.jb0
 have e2:=B.jgc
 have e3:=B.gA
 have e4:=B.AR
 have e6:=B.BR
 have e5:R<q/\q<mp/\mp<W.heap.size:=by have h1:=B.mR;have h2:=B.qR;have h3:=B.WR;omega
 obtain⟨e5,e7,e8⟩:=e5
 have e9:=B.bel.size
 have k1:W.cell? ⟨jb,1,none⟩=some (.int .i64 5):=(B.job 1 (.int .i64 j.code) rfl).trans (by rw[J])
 have a1:=B.a1
 obtain⟨sa,bz,rfl,-⟩:=B.src
 have E:=Hk B
 obtain⟨r0,rf⟩:=B.rows 0 (by simp)
 clear B
 have HM:=Hk (show rs.length=rs.length from rfl)
 obtain⟨M,O⟩:∃M,rs.length=M:=⟨_,rfl⟩
 have ab:=Hk O
 rw[O] at a1 hM
 have bb:=Hk (show∀x∈[rs],x.length<=100000 from fun x hx=>by simp at hx;rw[hx,O];omega)
 have aX:=Hk (show∀x∈[rs++tB.2],x.length<=100000 from fun x hx=>by simp at hx;rw[hx,List.length_append,O];omega)
 clear O
 conv=>arg 2;whnf
 go_wp2
 go_loopw [111] (fun i wr=>∃(k:Nat) (v:Value) (us:List Value),k<=M/\i=.int .i64 k/\OutH w W.heap.size R 0 (rs.take k) v us wr/\Keep2 R mp W wr) (fun i _=>M-(intOf i).toNat)
 case atStart=>exact⟨0,.slice none 0 0,[],Nat.zero_le _,rfl,⟨r0,rf,World.ownsRow_nil _ _ _ _,QeZ.nil _⟩,Keep2.refl _ _ _⟩
 case round=>
  obtain⟨k,v,us,hk,rfl,T,y⟩:=hrel
  have aC:=(E.out.keep y).1
  have k1':wr.cell? ⟨jb,1,none⟩=some (.int .i64 5):=((E.out.keep y).2.1 1 (.int .i64 j.code) rfl).trans (by rw[J])
  have q0':=(E.out.keep y).2.2.2.2.2.1
  have hsz:=y.size
  by_cases hlt:k<M
  ·have bm:(k:Int)<(M:Int):=by omega
   have az:k<rs.length:=by have:=ab.out;omega
   obtain⟨b,o,u,rfl,x0,aE⟩:=E.out.row y k az
   have am:=Hk (show Calls Tryz.prog 31 #[.int .i64 0,u,.pointer (some ⟨q,0,none⟩)] wr _ from QiQ (w0:=w) (wx:=wr) q R 1 0 W.heap.size (rs.take k) v u us rs[k] q0' (by decide) (by decide) T aE (by simp;omega) hsz (by omega) (by omega) (by omega))
   obtain⟨ua,uc,rfl,-⟩:=aE
   have a5:=Hk y
   generalize rs[k].length=un at*
   clear T y
   go_wp2_with (first|(go_at_call 31;refine am.out.mono ?_;rintro e w5 ⟨rfl,v',aD,-,ay⟩)|(go_at_fn 31;refine am.out.mono ?_;rintro e w5 ⟨rfl,v',aD,-,ay⟩))
   go_roundw
   case rel=>exact⟨k+1,v',_,by omega,by go_num,by rw[Qc1 az];exact aD,ay mp W rfl a5.out⟩
   case measure=>simp[intOf];omega
  ·obtain rfl:M=k:=by omega
   rw[<-ab.out,List.take_length] at T
   obtain⟨Z,vc,rfl⟩:=Qae T.own
   have aw:=E.out.rowsB
   obtain⟨D,aP,aB,aQ,aO⟩:∃D:List Value,D.length=tB.2.length/\(∀a c,vrB=.slice a tB.2.length c->(∃ad,a=some ad/\∀V,Below w.heap.size w V->∀j u,D[j]? =some u->V.cell? (ad.add j)=some u)\/(a=none/\tB.2.length=0/\c=0))/\QeZ w D tB.2/\∀u∈D,u.oneCell'=true:=by
    obtain⟨a,c,rfl,h⟩:=aw
    rcases h with h|⟨b,o,rfl,be,aW⟩
    ·refine⟨[],by rw[h];rfl,fun a' c' e=>?_,by rw[h];exact QeZ.nil _,fun u hu=>absurd hu (by simp)⟩
     simp only[Value.slice.injEq,true_and] at e
     obtain⟨rfl,rfl⟩:=e
     cases a with
     |none=>exact Or.inr ⟨rfl,aM _ _ rfl⟩
     |some ad=>exact Or.inl ⟨ad,rfl,fun V _ j u hu=>by simp at hu⟩
    ·obtain⟨D,h1,h2,h3,h4⟩:=QjE aW
     refine⟨D,h1,fun a' c' e=>?_,⟨h1,fun j hj hj'=>h3 j hj hj'⟩,h4⟩
     simp only[Value.slice.injEq,true_and] at e
     obtain⟨rfl,rfl⟩:=e
     refine Or.inl ⟨_,rfl,fun V hV j u hu=>?_⟩
     have:=h2 j u hu
     rw[Addr.add_lit] at this⊢
     exact cK hV be this
   obtain⟨ba,bc,rfl,-⟩:=aw
   have ak:=Hk (Ai (aB ba bc rfl) (Ai aQ aP))
   clear aB
   obtain⟨i0,aL,bi,aT,aV⟩:=info_parts Tryz.infoRow
   have b1':=(E.out.keep y).2.2.2.2.1
   have U:=Hk T
   have a9:=Hk y
   have a7:=Hk aC
   have v6:wr.drew.cell? ⟨R,0,none⟩=some (.slice Z (rs.length) vc):=by simpa using T.cell
   have q6:wr.drew.cell? ⟨q,0,none⟩=some (.slice (some ⟨R,0,none⟩) 1 1)/\wr.drew.cell? ⟨Bx,1,none⟩=some (.slice ba tB.2.length bc):=by simpa using Ai q0' b1'
   have aR:=Hk T.frz
   have bf:R<wr.heap.size:=by omega
   have bA:Bx<wr.heap.size:=by omega
   have bx:q<wr.heap.size:=by omega
   have aG:=Hk (show rs.length<=100 by have:=ab.out;omega)
   clear T y aC bb ab
   generalize aH:rs.length=MA at*
   generalize aN:tB.2.length=MB at*
   go_upto_region 68 with fail
   rename_i K2 aA
   have aZ:=Hk aA
   clear aA
   refine wp_region_held_drew (S:=fun V=>V.cell? ⟨q,0,none⟩=some (.slice (some ⟨R,0,none⟩) 1 1)/\V.cell? ⟨Bx,1,none⟩=some (.slice ba MB bc)) (by kernel_rfl) q6 (fun hH=>?_)
   refine wpAnyH_take (i:=0) (v:=.slice (some ⟨R,0,none⟩) 1 1) rfl (by kernel_rfl) (by kernel_rfl) (by kernel_rfl) (fun _ _ _ h=>h) (Or.inl ⟨by rfl,?_⟩) (by assumption) ?_
   ·intro V hV
    go_simp
   simp only[List.getElem_toArray,List.getElem_cons_zero,List.getElem_cons_succ,Act.put,List.setIfInBounds_toArray,List.set_cons_zero,List.set_cons_succ]
   refine wpAnyH_take (i:=1) (v:=.slice (some ⟨R,0,none⟩) 1 1) rfl (by kernel_rfl) (by kernel_rfl) (by kernel_rfl) (fun _ _ _ h=>h) (Or.inl ⟨by rfl,?_⟩) (by assumption) ?_
   ·intro V hV
    go_simp
   simp only[List.getElem_toArray,List.getElem_cons_zero,List.getElem_cons_succ,Act.put,List.setIfInBounds_toArray,List.set_cons_zero,List.set_cons_succ]
   refine wpAnyH_take (i:=2) (v:=.pointer (some ⟨R,0,none⟩)) rfl (by kernel_rfl) (by kernel_rfl) (by kernel_rfl) (fun _ _ _ h=>h) (Or.inl ⟨by rfl,?_⟩) (by assumption) ?_
   ·intro V hV
    go_simp
   simp only[List.getElem_toArray,List.getElem_cons_zero,List.getElem_cons_succ,Act.put,List.setIfInBounds_toArray,List.set_cons_zero,List.set_cons_succ]
   refine wpAnyH_take (i:=4) (v:=.pointer (some ⟨Bx,1,none⟩)) rfl (by kernel_rfl) (by kernel_rfl) (by kernel_rfl) (fun _ _ _ h=>h) (Or.inl ⟨by rfl,?_⟩) (by assumption) ?_
   ·intro V hV
    go_simp
   simp only[List.getElem_toArray,List.getElem_cons_zero,List.getElem_cons_succ,Act.put,List.setIfInBounds_toArray,List.set_cons_zero,List.set_cons_succ]
   refine wpAnyH_take (i:=5) (v:=.slice ba MB bc) rfl (by kernel_rfl) (by kernel_rfl) (by kernel_rfl) (fun _ _ _ h=>h) (Or.inl ⟨by rfl,?_⟩) (by assumption) ?_
   ·intro V hV
    go_simp
   simp only[List.getElem_toArray,List.getElem_cons_zero,List.getElem_cons_succ,Act.put,List.setIfInBounds_toArray,List.set_cons_zero,List.set_cons_succ]
   refine wpAnyH_ready (rs:=[3]) (by kernel_rfl) (by simp) ?_
   refine AllReadyH.cons rfl (fun K y=>?_) AllReadyH.nil
   go_simp
   refine y.out _ _ q6 (fun hH=>?_)
   clear y K
   try simp only[List.getElem_toArray,List.getElem_cons_zero,List.getElem_cons_succ,Act.put,List.setIfInBounds_toArray,List.set_cons_zero,List.set_cons_succ]
   refine wpAnyH_ready (rs:=[6]) (by kernel_rfl) (by simp) ?_
   refine AllReadyH.cons rfl (fun K y=>?_) AllReadyH.nil
   refine Qea (by rfl) _ _ _ (by rfl) W.heap.size 57 i0 _ 1 24 Tryz.underlying34 aL bi aT aV rfl (by decide) _ _ _ (by rfl) (show wr.drew.ownsRow W.heap.size 57 1 (.slice Z MA vc) MA us from(by have:=U.out.own;rw[aH] at this;exact Qaf this (show Below wr.heap.size wr wr.drew from(Below.refl _ _).drew))) ba MB bc D (by rfl) (by rw[ak.out.2.2];simp) (ak.out.1.imp (fun⟨ad,h1,h2⟩=>⟨ad,h1,h2 _ (a7.out.drew)⟩) id) aO ?b1 ?b2 ?b3 ?_
   case b1=>have:=aG.out;unfold maxLen;omega
   case b2=>have:=aG.out;omega
   case b3=>simpa using hsz
   intro v8 w8 N z
   have F:wr.grownBy w8 (Value.slice Z MA vc).ownBlock:=⟨z.os,z.tape,z.output,z.size,z.block⟩
   have aK:some R≠(Value.slice Z MA vc).ownBlock:=QdC U.out.own (by omega)
   have a8:some q≠(Value.slice Z MA vc).ownBlock:=QdC U.out.own (by omega)
   have aU:some Bx≠(Value.slice Z MA vc).ownBlock:=QdC U.out.own (by omega)
   have s8:w8.cell? ⟨q,0,none⟩=some (.slice (some ⟨R,0,none⟩) 1 1)/\w8.cell? ⟨Bx,1,none⟩=some (.slice ba MB bc):=⟨F.cell q0' a8,F.cell b1' aU⟩
   have r8:w8.cell? ⟨R,0,none⟩=some (.slice Z MA vc):=F.cell U.out.cell aK
   have f8:w8.frozen? ⟨R,0,none⟩=false:=(F.frozen_far ⟨R,0,none⟩ bf aK).trans aR.out
   have aJ:=Hk (Ai N F)
   obtain⟨ax,av,rfl⟩:=Qae N
   clear N z F
   refine y.out _ _ s8 (fun hH=>?_)
   clear y K
   try simp only[List.getElem_toArray,List.getElem_cons_zero,List.getElem_cons_succ,Act.put,List.setIfInBounds_toArray,List.set_cons_zero,List.set_cons_succ]
   refine wpAnyH_ready (rs:=[7]) (by kernel_rfl) (by simp) ?_
   refine AllReadyH.cons rfl (fun K y=>?_) AllReadyH.nil
   go_simp
   refine y.out _ _ s8 (fun hH=>?_)
   clear y K
   try simp only[List.getElem_toArray,List.getElem_cons_zero,List.getElem_cons_succ,Act.put,List.setIfInBounds_toArray,List.set_cons_zero,List.set_cons_succ]
   refine wpAnyH_ready (rs:=[8]) (by kernel_rfl) (by simp) ?_
   refine AllReadyH.cons rfl (fun K y=>?_) AllReadyH.nil
   go_simp
   refine y.out _ _ ⟨(World.cell?_setCell_other _ _ _ _ (by intro e;simp at e;try omega)).trans s8.1,(World.cell?_setCell_other _ _ _ _ (by intro e;simp at e;try omega)).trans s8.2⟩ (fun hH=>?_)
   clear y K
   try simp only[List.getElem_toArray,List.getElem_cons_zero,List.getElem_cons_succ,Act.put,List.setIfInBounds_toArray,List.set_cons_zero,List.set_cons_succ]
   refine wpAnyH_done (by kernel_rfl) ?_ _
   go_wp2
   refine aZ.out _ _ ?_
   obtain⟨WE,ac⟩:∃x,x=w8.setCell ⟨R,0,none⟩ (.slice ax (MA+MB) av):=⟨_,rfl⟩
   have bg:OutH w W.heap.size R 0 (rs++tB.2) (.slice ax (MA+MB) av) (us++D) WE:=by
    rw[ac]
    refine⟨World.cell?_setCell_same _ _ _ (by rw[r8]),by simpa using f8,?_,U.out.us.app ak.out.2.1⟩
    rw[List.length_append,aH,aN]
    exact QdT aJ.out.1 (by omega)
   have I:Keep2 R mp W WE:=by
    rw[ac]
    exact(a9.out.grown aJ.out.2 (fun k hk=>Or.inl (by have:=(U.out.own.lt k hk).1;exact this))).set 0 _
   rw[<-ac]
   clear ac
   have aj:=(E.out.keep I).1
   have kE:WE.cell? ⟨jb,1,none⟩=some (.int .i64 5):=((E.out.keep I).2.1 1 (.int .i64 j.code) rfl).trans (by rw[J])
   have qE:=(E.out.keep I).2.2.2.2.2.1
   have bl:=I.size
   go_upto_region 69 with fail
   rename_i K3 aI
   have aS:=Hk aI
   clear aI
   go_wp2
   refine aS.out _ _ ?_
   refine Qcn jb gc cc q R 1 5 [c] [rs++tB.2] WE (fun e w'=>Qbf e w' w.heap.size (Qbl 5 [rs++tB.2]) [(c,rs++tB.2)]/\Below w.heap.size w w') ?_ ?_ ?_ ?_ ?_ ?_ ?_ ?_ ?_ ?_ ?_ ?_
   ·rfl
   ·rfl
   ·decide
   ·decide
   ·exact(by decide)
   ·exact kE
   ·exact qE
   ·exact(E.out.keep I).2.2.2.2.2.2.1
   ·exact(E.out.keep I).2.2.2.2.2.2.2
   ·exact(QfW bg aj)
   ·exact aX.out
   ·exact(Qbf.fin aj)
end Go.Proofs.YtofidnijfnhpaaaGreatDoor
