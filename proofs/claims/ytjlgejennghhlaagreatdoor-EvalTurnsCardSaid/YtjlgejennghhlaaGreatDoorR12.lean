import Derived.Test.YtjlgejennghhlaaGreatDoorR01
import Derived.Test.YtjlgejennghhlaaGreatDoorR11
set_option linter.unusedSimpArgs false
set_option linter.unusedVariables false
set_option linter.unusedSectionVars false
set_option maxRecDepth 1000000
set_option maxHeartbeats 16000000
namespace Go.Proofs.YtjlgejennghhlaaGreatDoor
open Go.RowKit
theorem QhK:∀(y:List Vl) (cs:List Cl),QaO y cs=true->y.length=cs.length:=fun y cs h=>by
 by_cases hl:y.length=cs.length
 ·exact hl
 ·rw[Qdp y cs hl] at h;cases h
theorem Qan {cs:List Cl} {rs:List (List Vl)} (h:Qae cs rs=true):1<=cs.length/\cs.length<=6/\rs.length<=60/\∀r∈rs,r.length=cs.length:=by
 obtain⟨D,E,F⟩:=QaI h;have y:=Qbr D;exact⟨y.1,y.2,E,fun r hr=>QhK r cs (F r hr)⟩
theorem Qbp {w:World} {v:Value} {cs:List Cl} (h:Qax w v cs):∀x∈cs,x.1.size<=maxLen:=by
 obtain⟨_,_,_,_,y,_⟩:=h;exact y
theorem QbI {w:World} {v:Value} {cs:List Cl} (h:Qax w v cs) (y:1<=cs.length):∃b o c,v=.slice (some ⟨b,o,none⟩) cs.length c/\b<w.heap.size/\Qau w b o cs:=by
 obtain⟨a,c,rfl,-,-,h⟩:=h;rcases h with h|⟨b,o,rfl,E,D⟩
 ·rw[h] at y;simp at y
 ·exact⟨b,o,c,rfl,E,D⟩
theorem Qkt {cs:List Cl} {j:Jb} (h:QaX cs j=0):QdW cs j.left/\(Qb1 cs j.right≠0->QdW cs j.right):=by
 unfold QaX at h;split at h
 ·cases h
 ·constructor
  ·cases g:Qaq cs j.left.1.data.toList with
   |none=>rw[g] at h;cases h
   |some i=>exact Or.inr ⟨i,g⟩
  ·intro y;unfold Qb1 at y;split at y
   ·rename_i he;exact Or.inl he
   ·cases g:Qaq cs j.right.1.data.toList with
    |none=>rw[g] at y;exact absurd rfl y
    |some i=>exact Or.inr ⟨i,g⟩
theorem Qku {cs:List Cl} {j:Jb} (D:∀c∈cs,c.2≠0) (h:QaX cs j=0):Qb1 cs j.right≠0:=by
 unfold QaX at h;split at h
 ·cases h
 ·cases g:Qaq cs j.left.1.data.toList with
  |none=>rw[g] at h;cases h
  |some i=>
   rw[g] at h;have y:=Qap g;simp only[List.getElem?_eq_getElem y,Option.getD_some] at h;split at h
   ·rename_i e;rw[e];exact D _ (List.getElem_mem y)
   ·cases h
def Qgt (j:Jb) (m:Nat) (t:Tb):Int:=if Qae t.1 t.2=false then 1 else if(m:Int)≠(Qa3 j.code).2 then 1 else QaX t.1 j
theorem QnR {cs:List Cl} (h:Qaj cs=true):∀c∈cs,c.2≠0:=by
 intro c y;have D:=(QbQ cs [] (by simp[Qaj] at h;exact h.2.2) c y).2;simp[Qhy] at D;omega
theorem Qcs {W:World} {B g D:Nat} {us:List Value} {cs:List Cl} (y:W.ownsRow B 51 1 (.slice (some ⟨g,0,none⟩) 1 D) 1 us) (F:QaE W us [cs]) (H:1<=cs.length):
 ∃b o c,W.cell? ⟨g,0,none⟩=some (.slice (some ⟨b,o,none⟩) cs.length c)/\g<W.heap.size/\b<W.heap.size/\Qau W b o cs:=by
 obtain⟨u,I,J⟩:=F.2 0 (by simp);obtain⟨b,o,c,rfl,h,E⟩:=QbI J H;exact⟨b,o,c,QcC y 0 _ (by decide) I,(y.lt g rfl).2,h,E⟩
theorem QeL {t:Tb} {j:Jb} {w:World} (U:Option Addr) (H M:Nat) (E:j.code=1\/j.code=9) (K:j.outs=.slice U H M) (N:Qa3 j.code=(((1:Nat):Int),(H:Int))) (V:H<=2) (hx:j.right.2.2.2.size<=maxLen) (hr:Qae t.1 t.2=true) (he:QaX t.1 j=0):
 ∀W B g y us,Below w.heap.size w W->W.ownsRow B 51 1 (.slice (some ⟨g,0,none⟩) [t].length y) [t].length us->QaE W us ([t].map (·.1))->Calls Tryz.prog 59 #[.agg j.cells,.slice (some ⟨g,0,none⟩) [t].length y] W fun e w'=>∃v us,e=.returned (.tuple #[v,.nilIface])/\w'.ownsRow W.heap.size 51 1 v H us/\Qbk w' W.heap.size us t.1/\Below W.heap.size W w':=by
 obtain⟨O,ae,af,ad⟩:=Qan hr;intro W B g y us hW Z hh;obtain⟨b,o,c,I,F,D,J⟩:=Qcs Z hh O;refine cols_ok _ U y M j 1 H t.1 W K N (by decide) V (fun W' hW'=>?_) (fun W' hW'=>QbF g 0 1 y b o t.1.length c t.1 j W' (by rcases E with h|h;exact Or.inl h;exact Or.inr (Or.inl h)) (by decide) (Nat.lt_of_lt_of_le F hW'.size) (cK hW' F I) rfl (by omega) (Nat.lt_of_lt_of_le D hW'.size) (J.below hW' D));have:=Qer g 0 1 y b o t.1.length c t.1 j W' E (by decide) (Nat.lt_of_lt_of_le F hW'.size) (cK hW' F I) rfl (by omega) (Nat.lt_of_lt_of_le D hW'.size) (J.below hW' D) hx;rw[he] at this;exact this
theorem QeM {tb h tcap:Nat} {t:Tb} {j:Jb} {w:World} (E:j.code=1\/j.code=9) (U:QaZ w tb h [t]) (D:tb<w.heap.size) (J:Qae t.1 t.2=true) (he:QaX t.1 j=0):
 ∀W,Below w.heap.size w W->Calls Tryz.prog 102 #[.agg j.cells,.slice (some ⟨tb,h,none⟩) [t].length tcap] W fun e w'=>∃v1 v2 us1 us2,e=.returned (.tuple #[v1,v2,.nilIface])/\w'.ownsRow W.heap.size 84 1 v1 (t.2.filter (Qbn t.1 j)).length us1/\Qab w' W.heap.size us1 (t.2.filter (Qbn t.1 j))/\w'.ownsRow W.heap.size 84 1 v2 (t.2.filter (fun r=> !Qbn t.1 j r)).length us2/\Qab w' W.heap.size us2 (t.2.filter (fun r=> !Qbn t.1 j r))/\Below W.heap.size W w':=by
 obtain⟨K,aa,Z,F⟩:=Qan J;obtain⟨I,M⟩:=Qkt he;have ok2':=M (Qku (QnR (QaI J).1) he);intro W y;obtain⟨N,O,c0,c1,V,H⟩:=U 0 (by simp);exact QiT tb h 1 tcap N O t.1 t.2 j W E (by decide) (Nat.lt_of_lt_of_le D y.size) ((y.cell (p:=⟨tb,h,none⟩) D).trans (by simpa using c0)) ((y.cell (p:=⟨tb,h+1,none⟩) D).trans (by simpa using c1)) (V.below y) (H.below y) K (by omega) F (by omega) I ok2'
theorem Qju {j:Jb} {m y:Nat} {t:Tb} (E:Qa3 j.code=(((1:Nat):Int),(y:Int))) (h:Qgt j m t=0):Qae t.1 t.2=true/\m=y/\QaX t.1 j=0:=by
 unfold Qgt at h;split at h
 ·cases h
 ·split at h
  ·cases h
  ·rename_i F D
   refine⟨by simpa using F,?_,h⟩;rw[E] at D;have H:¬¬((m:Int)=(y:Int)):=D;omega
theorem QlR (tb y tcap:Nat) (t:Tb) (j:Jb) (O:Option Addr) (m M:Nat) (w:World) (h:j.code=1) (J:j.outs=.slice O m M) (I:QaZ w tb y [t]) (H:tb<w.heap.size) (U:j.right.2.2.2.size<=maxLen) (K:Qgt j m t=0):
 Calls Tryz.prog 61 #[.agg j.cells,.slice (some ⟨tb,y,none⟩) 1 tcap] w fun e w'=>∃g c,e=.returned (.tuple #[.slice (some ⟨g,0,none⟩) 1 c,.nilIface])/\w.heap.size<=g/\g<w'.heap.size/\QbR w' w.heap.size g [(t.1,t.2.filter (Qbn t.1 j))]/\Below w.heap.size w w':=by
 have F:Qa3 j.code=(((1:Nat):Int),((1:Nat):Int)):=by rw[h];rfl
 obtain⟨D,rfl,he⟩:=Qju F K;obtain⟨ac,aa,N,Z⟩:=Qan D;obtain⟨vc,vr,c0,c1,V,ab⟩:=I 0 (by simp);exact Qd0 tb y tcap [t] j w I H (by simp) (by simp) (by intro x E;simp at E;rw[E];exact D) t.1 _ _ (Nat.le_trans (List.length_filter_le _ _) N) (Qbp V) (QeL O 1 M (Or.inl h) J F (by decide) U D he) (QeM (Or.inl h) I H D he)
theorem QnS (tb y tcap:Nat) (t:Tb) (j:Jb) (O:Option Addr) (m M:Nat) (w:World) (h:j.code=9) (J:j.outs=.slice O m M) (I:QaZ w tb y [t]) (H:tb<w.heap.size) (U:j.right.2.2.2.size<=maxLen) (K:Qgt j m t=0):
 Calls Tryz.prog 61 #[.agg j.cells,.slice (some ⟨tb,y,none⟩) 1 tcap] w fun e w'=>∃g c,e=.returned (.tuple #[.slice (some ⟨g,0,none⟩) 2 c,.nilIface])/\w.heap.size<=g/\g<w'.heap.size/\QbR w' w.heap.size g [(t.1,t.2.filter (Qbn t.1 j)),(t.1,t.2.filter (fun r=> !Qbn t.1 j r))]/\Below w.heap.size w w':=by
 have F:Qa3 j.code=(((1:Nat):Int),((2:Nat):Int)):=by rw[h];rfl
 obtain⟨D,rfl,he⟩:=Qju F K;obtain⟨ac,aa,N,Z⟩:=Qan D;obtain⟨vc,vr,c0,c1,V,ab⟩:=I 0 (by simp);exact Qqm tb y tcap [t] j w I H (by simp) (by simp) (by intro x E;simp at E;rw[E];exact D) t.1 _ _ (Nat.le_trans (List.length_filter_le _ _) N) (Qbp V) (QeL O 2 M (Or.inr h) J F (by decide) U D he) (QeM (Or.inr h) I H D he)
theorem Qqn:Lib.itoa 1=[49]:=by
 unfold Lib.itoa;rw[if_neg (by decide)];exact Lib.decDigits_one (i:=1) (by decide)
theorem Qqo:Lib.itoa 2=[50]:=by
 unfold Lib.itoa;rw[if_neg (by decide)];exact Lib.decDigits_one (i:=2) (by decide)
theorem Qrj:Qbj [49]=some (1,1,[]):=by
 have h:Qda [49]=(1,1,[]):=by kernel_rfl
 rw[Qgm h];simp only[Qb3,if_true,Qqn];decide
theorem Qrk:Qbj [50]=some (1,2,[]):=by
 have h:Qda [50]=(1,2,[]):=by kernel_rfl
 rw[Qgm h];simp only[Qb3,if_true,Qqo];decide
def QfB (c:Cl):Bool:=decide (40<c.1.size)
def QgT (v:Vl):Bool:=decide (40<v.2.2.size)
def QeY (r:List Vl):Bool:=decide (8<r.length)||r.any QgT
def Qb5 (cs:List Cl) (rs:List (List Vl)):Bool:= !(decide (8<cs.length)||(decide (65<rs.length)||cs.any QfB))&& !(rs.any QeY)
theorem Qkv (c:Cl) (w:World) (h:c.1.size<=maxLen):Calls Tryz.prog 39 #[.agg #[.string c.1,.int .i64 c.2]] w fun e w'=>e=.returned (.bool (QfB c))/\Below w.heap.size w w':=by
 unfold maxLen at h;go_enter Tryz.func39,Tryz.ntmps39;go_wp2
 all_goals go_ret
 all_goals refine⟨ret_bool ?_,Qaa _ _⟩
 all_goals(simp[QfB];omega)
theorem QiU (v:Vl) (w:World) (h:v.2.2.size<=maxLen):Calls Tryz.prog 43 #[.agg #[.int .i64 v.1,.int .i64 v.2.1,.string v.2.2]] w fun e w'=>e=.returned (.bool (QgT v))/\Below w.heap.size w w':=by
 unfold maxLen at h;go_enter Tryz.func43,Tryz.ntmps43;go_wp2
 all_goals go_ret
 all_goals refine⟨ret_bool ?_,Qaa _ _⟩
 all_goals(simp[QgT];omega)
theorem any_step {α:Type} {p:α->Bool} {l:List α} {k:Nat} (h:k<l.length) (D:(l.take k).any p=false) (y:p l[k]=false):(l.take (k+1)).any p=false:=by
 rw[List.take_succ_eq_append_getElem h,List.any_append,D];simp[y]
theorem any_hit {α:Type} {p:α->Bool} {l:List α} {k:Nat} (h:k<l.length) (y:p l[k]=true):l.any p=true:=by
 rw[List.any_eq_true];exact⟨_,List.getElem_mem h,y⟩
def foundI (r:Int) (b:Bool):Prop:=-1<=r/\r<=1000/\(decide (0<=r))=b
theorem QnT (b o c n:Nat) (cs:List Cl) (w:World) (N:cs.length=n) (h8:n<=100) (M:b<w.heap.size) (V:Qau w b o cs) (U:∀x∈cs,x.1.size<=maxLen):
 Calls Tryz.prog 72 #[.slice (some ⟨b,o,none⟩) n c,.func (.func 39) #[] #[]] w fun e w'=>∃r:Int,e=.returned (.int .i64 r)/\foundI r (cs.any QfB)/\Below w.heap.size w w':=by
 have J:=Hk N;clear N;go_enter Tryz.func72,Tryz.ntmps72;go_wp2;go_loopw [8] (fun i wr=>∃k:Nat,k<=n/\i=.int .i64 k/\(cs.take k).any QfB=false/\Below w.heap.size w wr) (fun i _=>n-(intOf i).toNat)
 case atStart=>exact⟨0,Nat.zero_le _,rfl,rfl,Below.refl _ _⟩
 case round=>
  obtain⟨k,hk,rfl,E,h⟩:=hrel;have K:=Hk E;clear E
  by_cases hlt:k<n
  ·have y:k<cs.length:=by have:=J.out;omega
   obtain⟨c1,c2⟩:=V k y;have d1:=cK h M c1;have Z:=cK h M c2;clear c1 c2;have H:=fun ww=>Qkv cs[k] ww (U _ (List.getElem_mem y))
   have F:=Hk H;clear H
   cases hp:QfB cs[k]
   all_goals have I:=Hk hp
   all_goals rw[hp] at F
   ·go_wp2_with (go_at_call 39;refine(F.out _).mono ?_;rintro e O ⟨rfl,D⟩);go_roundw
    case rel=>exact⟨k+1,by omega,by go_num,any_step y K.out I.out,h.trans (D.mono h.size)⟩
    case measure=>simp[intOf];omega
   ·go_wp2_with (go_at_call 39;refine(F.out _).mono ?_;rintro e O ⟨rfl,D⟩);go_ret;exact⟨k,rfl,⟨by omega,by omega,by rw[any_hit y I.out];simp⟩,h.trans (D.mono h.size)⟩
  ·go_wp2;go_ret;exact⟨-1,rfl,⟨by omega,by omega,by have:=K.out;rw[List.take_of_length_le (by have:=J.out;omega)] at this;rw[this];rfl⟩,h⟩
theorem QnU (a:Option Addr) (c:Nat) (f:Value) (w:World):
 Calls Tryz.prog 72 #[.slice a 0 c,f] w fun e w'=>∃r:Int,e=.returned (.int .i64 r)/\foundI r false/\Below w.heap.size w w':=by
 go_enter Tryz.func72,Tryz.ntmps72;go_wp2;go_loopw [8] (fun i wr=>i=.int .i64 0/\wr=w) (fun i _=>0)
 case atStart=>exact⟨rfl,rfl⟩
 case round=>
  obtain⟨rfl,rfl⟩:=hrel;go_wp2;go_ret;exact⟨-1,rfl,⟨by omega,by omega,rfl⟩,Below.refl _ _⟩
theorem Qpx (v:Value) (cs:List Cl) (w:World) (h:Qax w v cs) (F:cs.length<=8):
 Calls Tryz.prog 72 #[v,.func (.func 39) #[] #[]] w fun e w'=>∃r:Int,e=.returned (.int .i64 r)/\foundI r (cs.any QfB)/\Below w.heap.size w w':=by
 obtain⟨a,c,rfl,-,E,rfl|⟨b,o,rfl,D,y⟩⟩:=h
 ·exact QnU _ _ _ _
 ·exact QnT b o c cs.length cs w rfl (by omega) D y E
theorem QnV (v:Value) (cs:List Cl) (w:World) (h:Qax w v cs) (E:cs.length<=8):
 Calls Tryz.prog 38 #[v,.func (.func 39) #[] #[]] w fun e w'=>e=.returned (.bool (cs.any QfB))/\Below w.heap.size w w':=by
 have F:=Hk (Qpx v cs w h E);obtain⟨a,c,rfl,-,-,-⟩:=h;go_enter Tryz.func38,Tryz.ntmps38;go_wp2_with (go_at_call 72;refine F.out.mono ?_;rintro e I ⟨r,rfl,y,D⟩;have H:=Hk y;clear y)
 all_goals go_ret
 all_goals exact⟨ret_bool (by rw[<-H.out.2.2]),D⟩
theorem QnW (b o c n:Nat) (cs:List Vl) (w:World) (M:cs.length=n) (h8:n<=100) (F:b<w.heap.size) (V:QaS w b o cs) (O:∀x∈cs,x.2.2.size<=maxLen):
 Calls Tryz.prog 74 #[.slice (some ⟨b,o,none⟩) n c,.func (.func 43) #[] #[]] w fun e w'=>∃r:Int,e=.returned (.int .i64 r)/\foundI r (cs.any QgT)/\Below w.heap.size w w':=by
 have K:=Hk M;clear M;go_enter Tryz.func74,Tryz.ntmps74;go_wp2;go_loopw [8] (fun i wr=>∃k:Nat,k<=n/\i=.int .i64 k/\(cs.take k).any QgT=false/\Below w.heap.size w wr) (fun i _=>n-(intOf i).toNat)
 case atStart=>exact⟨0,Nat.zero_le _,rfl,rfl,Below.refl _ _⟩
 case round=>
  obtain⟨k,hk,rfl,E,h⟩:=hrel;have J:=Hk E;clear E
  by_cases hlt:k<n
  ·have y:k<cs.length:=by have:=K.out;omega
   obtain⟨c1,c2,c3⟩:=V k y;have d1:=cK h F c1;have Z:=cK h F c2;have d3:=cK h F c3;clear c1 c2 c3;have I:=fun ww=>QiU cs[k] ww (O _ (List.getElem_mem y))
   have H:=Hk I;clear I
   cases hp:QgT cs[k]
   all_goals have N:=Hk hp
   all_goals rw[hp] at H
   ·go_wp2_with (go_at_call 43;refine(H.out _).mono ?_;rintro e U ⟨rfl,D⟩);go_roundw
    case rel=>exact⟨k+1,by omega,by go_num,any_step y J.out N.out,h.trans (D.mono h.size)⟩
    case measure=>simp[intOf];omega
   ·go_wp2_with (go_at_call 43;refine(H.out _).mono ?_;rintro e U ⟨rfl,D⟩);go_ret;exact⟨k,rfl,⟨by omega,by omega,by rw[any_hit y N.out];simp⟩,h.trans (D.mono h.size)⟩
  ·go_wp2;go_ret;exact⟨-1,rfl,⟨by omega,by omega,by have:=J.out;rw[List.take_of_length_le (by have:=K.out;omega)] at this;rw[this];rfl⟩,h⟩
theorem QnX (a:Option Addr) (c:Nat) (f:Value) (w:World):
 Calls Tryz.prog 74 #[.slice a 0 c,f] w fun e w'=>∃r:Int,e=.returned (.int .i64 r)/\foundI r false/\Below w.heap.size w w':=by
 go_enter Tryz.func74,Tryz.ntmps74;go_wp2;go_loopw [8] (fun i wr=>i=.int .i64 0/\wr=w) (fun i _=>0)
 case atStart=>exact⟨rfl,rfl⟩
 case round=>
  obtain⟨rfl,rfl⟩:=hrel;go_wp2;go_ret;exact⟨-1,rfl,⟨by omega,by omega,rfl⟩,Below.refl _ _⟩
theorem Qpy (v:Value) (cs:List Vl) (w:World) (h:QcA w v cs) (F:cs.length<=8):
 Calls Tryz.prog 74 #[v,.func (.func 43) #[] #[]] w fun e w'=>∃r:Int,e=.returned (.int .i64 r)/\foundI r (cs.any QgT)/\Below w.heap.size w w':=by
 obtain⟨a,c,rfl,E,rfl|⟨b,o,rfl,D,y⟩⟩:=h
 ·exact QnX _ _ _ _
 ·exact QnW b o c cs.length cs w rfl (by omega) D y E
theorem QnY (v:Value) (cs:List Vl) (w:World) (h:QcA w v cs) (E:cs.length<=8):
 Calls Tryz.prog 42 #[v,.func (.func 43) #[] #[]] w fun e w'=>e=.returned (.bool (cs.any QgT))/\Below w.heap.size w w':=by
 have F:=Hk (Qpy v cs w h E);obtain⟨a,c,rfl,-,-⟩:=h;go_enter Tryz.func42,Tryz.ntmps42;go_wp2_with (go_at_call 74;refine F.out.mono ?_;rintro e I ⟨r,rfl,y,D⟩;have H:=Hk y;clear y)
 all_goals go_ret
 all_goals exact⟨ret_bool (by rw[<-H.out.2.2]),D⟩
theorem Qkw (v:Value) (y:List Vl) (w:World) (h:QcA w v y):
 Calls Tryz.prog 41 #[v] w fun e w'=>e=.returned (.bool (QeY y))/\Below w.heap.size w w':=by
 by_cases h8:y.length<=8
 ·have F:=Hk (QnY v y w h h8);have D:Hid (QeY y=y.any QgT):=by show _=_;unfold QeY;rw[decide_eq_false (by omega)];rfl
  obtain⟨a,c,rfl,-,-⟩:=h;have H:¬((8:Int)<(y.length:Int)):=by omega
  go_enter Tryz.func41,Tryz.ntmps41;go_wp2_with (go_at_call 42;refine F.out.mono ?_;rintro e I ⟨rfl,E⟩)
  all_goals go_ret
  all_goals exact⟨ret_bool D.out.symm,E⟩
 ·have D:Hid (QeY y=true):=by show _=_;unfold QeY;rw[decide_eq_true (by omega)];rfl
  obtain⟨a,c,rfl,-,-⟩:=h;have H:(8:Int)<(y.length:Int):=by omega
  go_enter Tryz.func41,Tryz.ntmps41;go_wp2
  all_goals go_ret
  all_goals exact⟨ret_bool D.out.symm,Below.refl _ _⟩
end Go.Proofs.YtjlgejennghhlaaGreatDoor
