import Derived.Test.YtjlgejennghhlaaGreatDoorQ01
import Derived.Test.YtjlgejennghhlaaGreatDoorQ12
set_option linter.unusedSimpArgs false
set_option linter.unusedVariables false
set_option linter.unusedSectionVars false
set_option maxRecDepth 1000000
set_option maxHeartbeats 16000000
namespace Go.Proofs.YtjlgejennghhlaaGreatDoor
open Go.RowKit
theorem QhE:∀(y:List Vl) (cs:List Cl),QaO y cs=true->y.length=cs.length:=fun y cs h=>by
 by_cases hl:y.length=cs.length
 ·exact hl
 ·rw[Qdl y cs hl] at h;cases h
theorem Qam {cs:List Cl} {rs:List (List Vl)} (h:Qae cs rs=true):1<=cs.length/\cs.length<=6/\rs.length<=60/\∀r∈rs,r.length=cs.length:=by
 obtain⟨D,F,H⟩:=QaI h;have y:=Qbq D;exact⟨y.1,y.2,F,fun r hr=>QhE r cs (H r hr)⟩
theorem Qbo {w:World} {v:Value} {cs:List Cl} (h:Qax w v cs):∀x∈cs,x.1.size<=maxLen:=by
 obtain⟨_,_,_,_,y,_⟩:=h;exact y
theorem QbF {w:World} {v:Value} {cs:List Cl} (h:Qax w v cs) (y:1<=cs.length):∃b o c,v=.slice (some ⟨b,o,none⟩) cs.length c/\b<w.heap.size/\Qau w b o cs:=by
 obtain⟨a,c,rfl,-,-,h⟩:=h;rcases h with h|⟨b,o,rfl,F,D⟩
 ·rw[h] at y;simp at y
 ·exact⟨b,o,c,rfl,F,D⟩
theorem Qkh {cs:List Cl} {j:Jb} (h:QaV cs j=0):QdQ cs j.left/\(QbY cs j.right≠0->QdQ cs j.right):=by
 unfold QaV at h;split at h
 ·cases h
 ·constructor
  ·cases g:Qaq cs j.left.1.data.toList with
   |none=>rw[g] at h;cases h
   |some i=>exact Or.inr ⟨i,g⟩
  ·intro y;unfold QbY at y;split at y
   ·rename_i he;exact Or.inl he
   ·cases g:Qaq cs j.right.1.data.toList with
    |none=>rw[g] at y;exact absurd rfl y
    |some i=>exact Or.inr ⟨i,g⟩
theorem Qki {cs:List Cl} {j:Jb} (D:∀c∈cs,c.2≠0) (h:QaV cs j=0):QbY cs j.right≠0:=by
 unfold QaV at h;split at h
 ·cases h
 ·cases g:Qaq cs j.left.1.data.toList with
  |none=>rw[g] at h;cases h
  |some i=>
   rw[g] at h;have y:=Qap g;simp only[List.getElem?_eq_getElem y,Option.getD_some] at h;split at h
   ·rename_i e;rw[e];exact D _ (List.getElem_mem y)
   ·cases h
def Qgq (j:Jb) (m:Nat) (t:Tb):Int:=if Qae t.1 t.2=false then 1 else if(m:Int)≠(Qa1 j.code).2 then 1 else QaV t.1 j
theorem QnI {cs:List Cl} (h:Qai cs=true):∀c∈cs,c.2≠0:=by
 intro c y;have D:=(QbO cs [] (by simp[Qai] at h;exact h.2.2) c y).2;simp[Qhr] at D;omega
theorem Qcq {W:World} {B g D:Nat} {us:List Value} {cs:List Cl} (y:W.ownsRow B 51 1 (.slice (some ⟨g,0,none⟩) 1 D) 1 us) (H:QaE W us [cs]) (I:1<=cs.length):
 ∃b o c,W.cell? ⟨g,0,none⟩=some (.slice (some ⟨b,o,none⟩) cs.length c)/\g<W.heap.size/\b<W.heap.size/\Qau W b o cs:=by
 obtain⟨u,J,K⟩:=H.2 0 (by simp);obtain⟨b,o,c,rfl,h,F⟩:=QbF K I;exact⟨b,o,c,Qcy y 0 _ (by decide) J,(y.lt g rfl).2,h,F⟩
theorem QeI {t:Tb} {j:Jb} {w:World} (V:Option Addr) (I N:Nat) (F:j.code=1\/j.code=9) (M:j.outs=.slice V I N) (O:Qa1 j.code=(((1:Nat):Int),(I:Int))) (Z:I<=2) (hx:j.right.2.2.2.size<=maxLen) (hr:Qae t.1 t.2=true) (he:QaV t.1 j=0):
 ∀W B g y us,Below w.heap.size w W->W.ownsRow B 51 1 (.slice (some ⟨g,0,none⟩) [t].length y) [t].length us->QaE W us ([t].map (·.1))->Calls Tryz.prog 59 #[.agg j.cells,.slice (some ⟨g,0,none⟩) [t].length y] W fun e w'=>∃v us,e=.returned (.tuple #[v,.nilIface])/\w'.ownsRow W.heap.size 51 1 v I us/\Qbj w' W.heap.size us t.1/\Below W.heap.size W w':=by
 obtain⟨U,af,ag,ae⟩:=Qam hr;intro W B g y us hW ho hh;obtain⟨b,o,c,J,H,D,K⟩:=Qcq ho hh U;refine cols_ok _ V y N j 1 I t.1 W M O (by decide) Z (fun W' hW'=>?_) (fun W' hW'=>QbC g 0 1 y b o t.1.length c t.1 j W' (by rcases F with h|h;exact Or.inl h;exact Or.inr (Or.inl h)) (by decide) (Nat.lt_of_lt_of_le H hW'.size) (cK hW' H J) rfl (by omega) (Nat.lt_of_lt_of_le D hW'.size) (K.below hW' D));have:=Qem g 0 1 y b o t.1.length c t.1 j W' F (by decide) (Nat.lt_of_lt_of_le H hW'.size) (cK hW' H J) rfl (by omega) (Nat.lt_of_lt_of_le D hW'.size) (K.below hW' D) hx;rw[he] at this;exact this
theorem QeJ {tb h tcap:Nat} {t:Tb} {j:Jb} {w:World} (F:j.code=1\/j.code=9) (V:QaX w tb h [t]) (D:tb<w.heap.size) (K:Qae t.1 t.2=true) (he:QaV t.1 j=0):
 ∀W,Below w.heap.size w W->Calls Tryz.prog 102 #[.agg j.cells,.slice (some ⟨tb,h,none⟩) [t].length tcap] W fun e w'=>∃v1 v2 us1 us2,e=.returned (.tuple #[v1,v2,.nilIface])/\w'.ownsRow W.heap.size 84 1 v1 (t.2.filter (Qbm t.1 j)).length us1/\Qab w' W.heap.size us1 (t.2.filter (Qbm t.1 j))/\w'.ownsRow W.heap.size 84 1 v2 (t.2.filter (fun r=> !Qbm t.1 j r)).length us2/\Qab w' W.heap.size us2 (t.2.filter (fun r=> !Qbm t.1 j r))/\Below W.heap.size W w':=by
 obtain⟨M,ab,aa,H⟩:=Qam K;obtain⟨J,N⟩:=Qkh he;have ok2':=N (Qki (QnI (QaI K).1) he);intro W y;obtain⟨O,U,c0,c1,Z,I⟩:=V 0 (by simp);exact QiG tb h 1 tcap O U t.1 t.2 j W F (by decide) (Nat.lt_of_lt_of_le D y.size) ((y.cell (p:=⟨tb,h,none⟩) D).trans (by simpa using c0)) ((y.cell (p:=⟨tb,h+1,none⟩) D).trans (by simpa using c1)) (Z.below y) (I.below y) M (by omega) H (by omega) J ok2'
theorem Qjg {j:Jb} {m y:Nat} {t:Tb} (F:Qa1 j.code=(((1:Nat):Int),(y:Int))) (h:Qgq j m t=0):Qae t.1 t.2=true/\m=y/\QaV t.1 j=0:=by
 unfold Qgq at h;split at h
 ·cases h
 ·split at h
  ·cases h
  ·rename_i H D
   refine⟨by simpa using H,?_,h⟩;rw[F] at D;have I:¬¬((m:Int)=(y:Int)):=D;omega
theorem QlD (tb y tcap:Nat) (t:Tb) (j:Jb) (U:Option Addr) (m N:Nat) (w:World) (h:j.code=1) (K:j.outs=.slice U m N) (J:QaX w tb y [t]) (I:tb<w.heap.size) (V:j.right.2.2.2.size<=maxLen) (M:Qgq j m t=0):
 Calls Tryz.prog 61 #[.agg j.cells,.slice (some ⟨tb,y,none⟩) 1 tcap] w fun e w'=>∃g c,e=.returned (.tuple #[.slice (some ⟨g,0,none⟩) 1 c,.nilIface])/\w.heap.size<=g/\g<w'.heap.size/\QbP w' w.heap.size g [(t.1,t.2.filter (Qbm t.1 j))]/\Below w.heap.size w w':=by
 have H:Qa1 j.code=(((1:Nat):Int),((1:Nat):Int)):=by rw[h];rfl
 obtain⟨D,rfl,he⟩:=Qjg H M;obtain⟨ad,ab,O,aa⟩:=Qam D;obtain⟨vc,vr,c0,c1,Z,ac⟩:=J 0 (by simp);exact QdU tb y tcap [t] j w J I (by simp) (by simp) (by intro x F;simp at F;rw[F];exact D) t.1 _ _ (Nat.le_trans (List.length_filter_le _ _) O) (Qbo Z) (QeI U 1 N (Or.inl h) K H (by decide) V D he) (QeJ (Or.inl h) J I D he)
theorem QnJ (tb y tcap:Nat) (t:Tb) (j:Jb) (U:Option Addr) (m N:Nat) (w:World) (h:j.code=9) (K:j.outs=.slice U m N) (J:QaX w tb y [t]) (I:tb<w.heap.size) (V:j.right.2.2.2.size<=maxLen) (M:Qgq j m t=0):
 Calls Tryz.prog 61 #[.agg j.cells,.slice (some ⟨tb,y,none⟩) 1 tcap] w fun e w'=>∃g c,e=.returned (.tuple #[.slice (some ⟨g,0,none⟩) 2 c,.nilIface])/\w.heap.size<=g/\g<w'.heap.size/\QbP w' w.heap.size g [(t.1,t.2.filter (Qbm t.1 j)),(t.1,t.2.filter (fun r=> !Qbm t.1 j r))]/\Below w.heap.size w w':=by
 have H:Qa1 j.code=(((1:Nat):Int),((2:Nat):Int)):=by rw[h];rfl
 obtain⟨D,rfl,he⟩:=Qjg H M;obtain⟨ad,ab,O,aa⟩:=Qam D;obtain⟨vc,vr,c0,c1,Z,ac⟩:=J 0 (by simp);exact Qqe tb y tcap [t] j w J I (by simp) (by simp) (by intro x F;simp at F;rw[F];exact D) t.1 _ _ (Nat.le_trans (List.length_filter_le _ _) O) (Qbo Z) (QeI U 2 N (Or.inr h) K H (by decide) V D he) (QeJ (Or.inr h) J I D he)
theorem Qqf:Lib.itoa 1=[49]:=by
 unfold Lib.itoa;rw[if_neg (by decide)];exact Lib.decDigits_one (i:=1) (by decide)
theorem Qqg:Lib.itoa 2=[50]:=by
 unfold Lib.itoa;rw[if_neg (by decide)];exact Lib.decDigits_one (i:=2) (by decide)
theorem Qra:Qbi [49]=some (1,1,[]):=by
 have h:Qc8 [49]=(1,1,[]):=by kernel_rfl
 rw[Qgj h];simp only[Qb1,if_true,Qqf];decide
theorem Qrb:Qbi [50]=some (1,2,[]):=by
 have h:Qc8 [50]=(1,2,[]):=by kernel_rfl
 rw[Qgj h];simp only[Qb1,if_true,Qqg];decide
def Qfy (c:Cl):Bool:=decide (40<c.1.size)
def QgO (v:Vl):Bool:=decide (40<v.2.2.size)
def QeV (r:List Vl):Bool:=decide (8<r.length)||r.any QgO
def Qb3 (cs:List Cl) (rs:List (List Vl)):Bool:= !(decide (8<cs.length)||(decide (65<rs.length)||cs.any Qfy))&& !(rs.any QeV)
theorem Qkj (c:Cl) (w:World) (h:c.1.size<=maxLen):Calls Tryz.prog 39 #[.agg #[.string c.1,.int .i64 c.2]] w fun e w'=>e=.returned (.bool (Qfy c))/\Below w.heap.size w w':=by
 unfold maxLen at h;go_enter Tryz.func39,Tryz.ntmps39;go_wp2
 all_goals go_ret
 all_goals refine⟨ret_bool ?_,Qaa _ _⟩
 all_goals(simp[Qfy];omega)
theorem QiH (v:Vl) (w:World) (h:v.2.2.size<=maxLen):Calls Tryz.prog 43 #[.agg #[.int .i64 v.1,.int .i64 v.2.1,.string v.2.2]] w fun e w'=>e=.returned (.bool (QgO v))/\Below w.heap.size w w':=by
 unfold maxLen at h;go_enter Tryz.func43,Tryz.ntmps43;go_wp2
 all_goals go_ret
 all_goals refine⟨ret_bool ?_,Qaa _ _⟩
 all_goals(simp[QgO];omega)
theorem any_step {α:Type} {p:α->Bool} {l:List α} {k:Nat} (h:k<l.length) (D:(l.take k).any p=false) (y:p l[k]=false):(l.take (k+1)).any p=false:=by
 rw[List.take_succ_eq_append_getElem h,List.any_append,D];simp[y]
theorem any_hit {α:Type} {p:α->Bool} {l:List α} {k:Nat} (h:k<l.length) (y:p l[k]=true):l.any p=true:=by
 rw[List.any_eq_true];exact⟨_,List.getElem_mem h,y⟩
def foundI (r:Int) (b:Bool):Prop:=-1<=r/\r<=1000/\(decide (0<=r))=b
theorem QnK (b o c n:Nat) (cs:List Cl) (w:World) (O:cs.length=n) (h8:n<=100) (N:b<w.heap.size) (Z:Qau w b o cs) (V:∀x∈cs,x.1.size<=maxLen):
 Calls Tryz.prog 72 #[.slice (some ⟨b,o,none⟩) n c,.func (.func 39) #[] #[]] w fun e w'=>∃r:Int,e=.returned (.int .i64 r)/\foundI r (cs.any Qfy)/\Below w.heap.size w w':=by
 have K:=Hk O;clear O;go_enter Tryz.func72,Tryz.ntmps72;go_wp2;go_loopw [8] (fun i wr=>∃k:Nat,k<=n/\i=.int .i64 k/\(cs.take k).any Qfy=false/\Below w.heap.size w wr) (fun i _=>n-(intOf i).toNat)
 case atStart=>exact⟨0,Nat.zero_le _,rfl,rfl,Below.refl _ _⟩
 case round=>
  obtain⟨k,hk,rfl,F,h⟩:=hrel;have M:=Hk F;clear F
  by_cases hlt:k<n
  ·have y:k<cs.length:=by have:=K.out;omega
   obtain⟨c1,c2⟩:=Z k y;have d1:=cK h N c1;have d2:=cK h N c2;clear c1 c2;have I:=fun ww=>Qkj cs[k] ww (V _ (List.getElem_mem y))
   have H:=Hk I;clear I
   cases hp:Qfy cs[k]
   all_goals have J:=Hk hp
   all_goals rw[hp] at H
   ·go_wp2_with (go_at_call 39;refine(H.out _).mono ?_;rintro e U ⟨rfl,D⟩);go_roundw
    case rel=>exact⟨k+1,by omega,by go_num,any_step y M.out J.out,h.trans (D.mono h.size)⟩
    case measure=>simp[intOf];omega
   ·go_wp2_with (go_at_call 39;refine(H.out _).mono ?_;rintro e U ⟨rfl,D⟩);go_ret;exact⟨k,rfl,⟨by omega,by omega,by rw[any_hit y J.out];simp⟩,h.trans (D.mono h.size)⟩
  ·go_wp2;go_ret;exact⟨-1,rfl,⟨by omega,by omega,by have:=M.out;rw[List.take_of_length_le (by have:=K.out;omega)] at this;rw[this];rfl⟩,h⟩
theorem QnL (a:Option Addr) (c:Nat) (f:Value) (w:World):
 Calls Tryz.prog 72 #[.slice a 0 c,f] w fun e w'=>∃r:Int,e=.returned (.int .i64 r)/\foundI r false/\Below w.heap.size w w':=by
 go_enter Tryz.func72,Tryz.ntmps72;go_wp2;go_loopw [8] (fun i wr=>i=.int .i64 0/\wr=w) (fun i _=>0)
 case atStart=>exact⟨rfl,rfl⟩
 case round=>
  obtain⟨rfl,rfl⟩:=hrel;go_wp2;go_ret;exact⟨-1,rfl,⟨by omega,by omega,rfl⟩,Below.refl _ _⟩
theorem Qpq (v:Value) (cs:List Cl) (w:World) (h:Qax w v cs) (H:cs.length<=8):
 Calls Tryz.prog 72 #[v,.func (.func 39) #[] #[]] w fun e w'=>∃r:Int,e=.returned (.int .i64 r)/\foundI r (cs.any Qfy)/\Below w.heap.size w w':=by
 obtain⟨a,c,rfl,-,F,rfl|⟨b,o,rfl,D,y⟩⟩:=h
 ·exact QnL _ _ _ _
 ·exact QnK b o c cs.length cs w rfl (by omega) D y F
theorem QnM (v:Value) (cs:List Cl) (w:World) (h:Qax w v cs) (F:cs.length<=8):
 Calls Tryz.prog 38 #[v,.func (.func 39) #[] #[]] w fun e w'=>e=.returned (.bool (cs.any Qfy))/\Below w.heap.size w w':=by
 have H:=Hk (Qpq v cs w h F);obtain⟨a,c,rfl,-,-,-⟩:=h;go_enter Tryz.func38,Tryz.ntmps38;go_wp2_with (go_at_call 72;refine H.out.mono ?_;rintro e J ⟨r,rfl,y,D⟩;have I:=Hk y;clear y)
 all_goals go_ret
 all_goals exact⟨ret_bool (by rw[<-I.out.2.2]),D⟩
theorem QnN (b o c n:Nat) (cs:List Vl) (w:World) (N:cs.length=n) (h8:n<=100) (H:b<w.heap.size) (Z:QaR w b o cs) (U:∀x∈cs,x.2.2.size<=maxLen):
 Calls Tryz.prog 74 #[.slice (some ⟨b,o,none⟩) n c,.func (.func 43) #[] #[]] w fun e w'=>∃r:Int,e=.returned (.int .i64 r)/\foundI r (cs.any QgO)/\Below w.heap.size w w':=by
 have M:=Hk N;clear N;go_enter Tryz.func74,Tryz.ntmps74;go_wp2;go_loopw [8] (fun i wr=>∃k:Nat,k<=n/\i=.int .i64 k/\(cs.take k).any QgO=false/\Below w.heap.size w wr) (fun i _=>n-(intOf i).toNat)
 case atStart=>exact⟨0,Nat.zero_le _,rfl,rfl,Below.refl _ _⟩
 case round=>
  obtain⟨k,hk,rfl,F,h⟩:=hrel;have K:=Hk F;clear F
  by_cases hlt:k<n
  ·have y:k<cs.length:=by have:=M.out;omega
   obtain⟨c1,c2,c3⟩:=Z k y;have d1:=cK h H c1;have d2:=cK h H c2;have d3:=cK h H c3;clear c1 c2 c3;have J:=fun ww=>QiH cs[k] ww (U _ (List.getElem_mem y))
   have I:=Hk J;clear J
   cases hp:QgO cs[k]
   all_goals have O:=Hk hp
   all_goals rw[hp] at I
   ·go_wp2_with (go_at_call 43;refine(I.out _).mono ?_;rintro e V ⟨rfl,D⟩);go_roundw
    case rel=>exact⟨k+1,by omega,by go_num,any_step y K.out O.out,h.trans (D.mono h.size)⟩
    case measure=>simp[intOf];omega
   ·go_wp2_with (go_at_call 43;refine(I.out _).mono ?_;rintro e V ⟨rfl,D⟩);go_ret;exact⟨k,rfl,⟨by omega,by omega,by rw[any_hit y O.out];simp⟩,h.trans (D.mono h.size)⟩
  ·go_wp2;go_ret;exact⟨-1,rfl,⟨by omega,by omega,by have:=K.out;rw[List.take_of_length_le (by have:=M.out;omega)] at this;rw[this];rfl⟩,h⟩
theorem QnO (a:Option Addr) (c:Nat) (f:Value) (w:World):
 Calls Tryz.prog 74 #[.slice a 0 c,f] w fun e w'=>∃r:Int,e=.returned (.int .i64 r)/\foundI r false/\Below w.heap.size w w':=by
 go_enter Tryz.func74,Tryz.ntmps74;go_wp2;go_loopw [8] (fun i wr=>i=.int .i64 0/\wr=w) (fun i _=>0)
 case atStart=>exact⟨rfl,rfl⟩
 case round=>
  obtain⟨rfl,rfl⟩:=hrel;go_wp2;go_ret;exact⟨-1,rfl,⟨by omega,by omega,rfl⟩,Below.refl _ _⟩
theorem Qpr (v:Value) (cs:List Vl) (w:World) (h:Qcw w v cs) (H:cs.length<=8):
 Calls Tryz.prog 74 #[v,.func (.func 43) #[] #[]] w fun e w'=>∃r:Int,e=.returned (.int .i64 r)/\foundI r (cs.any QgO)/\Below w.heap.size w w':=by
 obtain⟨a,c,rfl,F,rfl|⟨b,o,rfl,D,y⟩⟩:=h
 ·exact QnO _ _ _ _
 ·exact QnN b o c cs.length cs w rfl (by omega) D y F
theorem QnP (v:Value) (cs:List Vl) (w:World) (h:Qcw w v cs) (F:cs.length<=8):
 Calls Tryz.prog 42 #[v,.func (.func 43) #[] #[]] w fun e w'=>e=.returned (.bool (cs.any QgO))/\Below w.heap.size w w':=by
 have H:=Hk (Qpr v cs w h F);obtain⟨a,c,rfl,-,-⟩:=h;go_enter Tryz.func42,Tryz.ntmps42;go_wp2_with (go_at_call 74;refine H.out.mono ?_;rintro e J ⟨r,rfl,y,D⟩;have I:=Hk y;clear y)
 all_goals go_ret
 all_goals exact⟨ret_bool (by rw[<-I.out.2.2]),D⟩
theorem Qkk (v:Value) (y:List Vl) (w:World) (h:Qcw w v y):
 Calls Tryz.prog 41 #[v] w fun e w'=>e=.returned (.bool (QeV y))/\Below w.heap.size w w':=by
 by_cases h8:y.length<=8
 ·have H:=Hk (QnP v y w h h8);have D:Hid (QeV y=y.any QgO):=by show _=_;unfold QeV;rw[decide_eq_false (by omega)];rfl
  obtain⟨a,c,rfl,-,-⟩:=h;have I:¬((8:Int)<(y.length:Int)):=by omega
  go_enter Tryz.func41,Tryz.ntmps41;go_wp2_with (go_at_call 42;refine H.out.mono ?_;rintro e J ⟨rfl,F⟩)
  all_goals go_ret
  all_goals exact⟨ret_bool D.out.symm,F⟩
 ·have D:Hid (QeV y=true):=by show _=_;unfold QeV;rw[decide_eq_true (by omega)];rfl
  obtain⟨a,c,rfl,-,-⟩:=h;have I:(8:Int)<(y.length:Int):=by omega
  go_enter Tryz.func41,Tryz.ntmps41;go_wp2
  all_goals go_ret
  all_goals exact⟨ret_bool D.out.symm,Below.refl _ _⟩
theorem QnQ (b o c n:Nat) (rs:List (List Vl)) (w:World) (U:rs.length=n) (h8:n<=100) (V:b<w.heap.size) (hc:Qdx w b o rs):
 Calls Tryz.prog 73 #[.slice (some ⟨b,o,none⟩) n c,.func (.func 41) #[] #[]] w fun e w'=>∃r:Int,e=.returned (.int .i64 r)/\foundI r (rs.any QeV)/\Below w.heap.size w w':=by
 have M:=Hk U;clear U;go_enter Tryz.func73,Tryz.ntmps73;go_wp2;go_loopw [8] (fun i wr=>∃k:Nat,k<=n/\i=.int .i64 k/\(rs.take k).any QeV=false/\Below w.heap.size w wr) (fun i _=>n-(intOf i).toNat)
 case atStart=>exact⟨0,Nat.zero_le _,rfl,rfl,Below.refl _ _⟩
 case round=>
  obtain⟨k,hk,rfl,H,h⟩:=hrel;have O:=Hk H;clear H
  by_cases hlt:k<n
  ·have y:k<rs.length:=by have:=M.out;omega
   obtain⟨u,N,D⟩:=hc k y;have hu':=cK h V N;have J:=Qkk u rs[k] wr (D.below h);obtain⟨a3,c3,rfl,-,-⟩:=D;have I:=Hk J;clear J N
   cases hp:QeV rs[k]
   all_goals have K:=Hk hp
   all_goals rw[hp] at I
   ·go_wp2_with (go_at_call 41;refine I.out.mono ?_;rintro e Z ⟨rfl,F⟩);go_roundw
    case rel=>exact⟨k+1,by omega,by go_num,any_step y O.out K.out,h.trans (F.mono h.size)⟩
    case measure=>simp[intOf];omega
   ·go_wp2_with (go_at_call 41;refine I.out.mono ?_;rintro e Z ⟨rfl,F⟩);go_ret;exact⟨k,rfl,⟨by omega,by omega,by rw[any_hit y K.out];simp⟩,h.trans (F.mono h.size)⟩
  ·go_wp2;go_ret;exact⟨-1,rfl,⟨by omega,by omega,by have:=O.out;rw[List.take_of_length_le (by have:=M.out;omega)] at this;rw[this];rfl⟩,h⟩
theorem QnR (a:Option Addr) (c:Nat) (f:Value) (w:World):
 Calls Tryz.prog 73 #[.slice a 0 c,f] w fun e w'=>∃r:Int,e=.returned (.int .i64 r)/\foundI r false/\Below w.heap.size w w':=by
 go_enter Tryz.func73,Tryz.ntmps73;go_wp2;go_loopw [8] (fun i wr=>i=.int .i64 0/\wr=w) (fun i _=>0)
 case atStart=>exact⟨rfl,rfl⟩
 case round=>
  obtain⟨rfl,rfl⟩:=hrel;go_wp2;go_ret;exact⟨-1,rfl,⟨by omega,by omega,rfl⟩,Below.refl _ _⟩
theorem Qps (v:Value) (rs:List (List Vl)) (w:World) (h:QaG w v rs) (F:rs.length<=65):
 Calls Tryz.prog 73 #[v,.func (.func 41) #[] #[]] w fun e w'=>∃r:Int,e=.returned (.int .i64 r)/\foundI r (rs.any QeV)/\Below w.heap.size w w':=by
 obtain⟨a,c,rfl,rfl|⟨b,o,rfl,D,y⟩⟩:=h
 ·exact QnR _ _ _ _
 ·exact QnQ b o c rs.length rs w rfl (by omega) D y
theorem QnS (v:Value) (rs:List (List Vl)) (w:World) (h:QaG w v rs) (F:rs.length<=65):
 Calls Tryz.prog 40 #[v,.func (.func 41) #[] #[]] w fun e w'=>e=.returned (.bool (rs.any QeV))/\Below w.heap.size w w':=by
 have H:=Hk (Qps v rs w h F);obtain⟨a,c,rfl,-⟩:=h;go_enter Tryz.func40,Tryz.ntmps40;go_wp2_with (go_at_call 73;refine H.out.mono ?_;rintro e J ⟨r,rfl,y,D⟩;have I:=Hk y;clear y)
 all_goals go_ret
 all_goals exact⟨ret_bool (by rw[<-I.out.2.2]),D⟩
theorem Qkl {cs:List Cl} {rs:List (List Vl)} (h:8<cs.length):Qb3 cs rs=false:=by
 unfold Qb3;rw[decide_eq_true h];rfl
theorem Qkm {cs:List Cl} {rs:List (List Vl)} (h:65<rs.length):Qb3 cs rs=false:=by
 unfold Qb3;rw[decide_eq_true h];simp
theorem QiI {cs:List Cl} {rs:List (List Vl)} (h:cs.any Qfy=true):Qb3 cs rs=false:=by
 unfold Qb3;rw[h];simp
theorem Qkn {cs:List Cl} {rs:List (List Vl)} (D:cs.length<=8) (y:rs.length<=65) (h:cs.any Qfy=false):Qb3 cs rs= !(rs.any QeV):=by
 unfold Qb3;rw[decide_eq_false (by omega),decide_eq_false (by omega),h];rfl
theorem QlE (I H:Value) (cs:List Cl) (rs:List (List Vl)) (w:World) (M:Qax w I cs) (K:QaG w H rs):
 Calls Tryz.prog 16 #[.agg #[I,H]] w fun e w'=>e=.returned (.bool (Qb3 cs rs))/\Below w.heap.size w w':=by
 have y:=M.below (Qaa w (.cells #[I,H] 54));have D:=K.below (Qaa w (.cells #[I,H] 54))
 by_cases h8:cs.length<=8
 ·by_cases h65:rs.length<=65
  ·have J:=QnM I cs _ y h8;have n8:¬((8:Int)<(cs.length:Int)):=by omega
   have ab:¬((65:Int)<(rs.length:Int)):=by omega
   cases g:cs.any Qfy
   ·rw[g] at J;have U:=Hk J;have HR:=Hk (fun N (hb:Below (w.alloc (.cells #[I,H] 54)).heap.size (w.alloc (.cells #[I,H] 54)) N)=>QnS H rs N (D.below hb) h65);have F:=Hk (Qkn h8 h65 g);clear J g y D;obtain⟨a,c,rfl,-,-,-⟩:=M;obtain⟨V,O,rfl,-⟩:=K;go_enter Tryz.func16,Tryz.ntmps16;go_wp2_with (first|(go_at_call 38;refine U.out.mono ?_;rintro e N ⟨rfl,h⟩;obtain⟨Z,aa⟩:=QaP h)|(go_at_call 40;refine(HR.out _ h).mono ?_;rintro e w3 ⟨rfl,ad⟩))
    all_goals go_ret
    all_goals exact⟨ret_bool F.out.symm,(Qaa _ _).trans ((h.mono (by simp)).trans (ad.mono (by have:=h.size;simp at this;omega)))⟩
   ·rw[g] at J;have U:=Hk J;have F:=Hk (QiI (rs:=rs) g);clear J g y D;obtain⟨a,c,rfl,-,-,-⟩:=M;obtain⟨V,O,rfl,-⟩:=K;go_enter Tryz.func16,Tryz.ntmps16;go_wp2_with (go_at_call 38;refine U.out.mono ?_;rintro e N ⟨rfl,h⟩;obtain⟨Z,aa⟩:=QaP h)
    all_goals go_ret
    all_goals exact⟨ret_bool F.out.symm,(Qaa _ _).trans (h.mono (by simp))⟩
  ·have F:=Hk (Qkm (cs:=cs) (rs:=rs) (by omega));have n8:¬((8:Int)<(cs.length:Int)):=by omega
   have ab:(65:Int)<(rs.length:Int):=by omega
   clear y D;obtain⟨a,c,rfl,-,-,-⟩:=M;obtain⟨V,O,rfl,-⟩:=K;go_enter Tryz.func16,Tryz.ntmps16;go_wp2
   all_goals go_ret
   all_goals exact⟨ret_bool F.out.symm,Qaa _ _⟩
 ·have F:=Hk (Qkl (cs:=cs) (rs:=rs) (by omega));have n8:(8:Int)<(cs.length:Int):=by omega
  clear y D;obtain⟨a,c,rfl,-,-,-⟩:=M;obtain⟨V,O,rfl,-⟩:=K;go_enter Tryz.func16,Tryz.ntmps16;go_wp2
  all_goals go_ret
  all_goals exact⟨ret_bool F.out.symm,Qaa _ _⟩
end Go.Proofs.YtjlgejennghhlaaGreatDoor
