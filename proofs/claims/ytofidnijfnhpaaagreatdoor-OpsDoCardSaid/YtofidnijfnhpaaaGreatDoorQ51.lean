import Derived.Lib.QuietBelow
import Derived.Test.YtofidnijfnhpaaaGreatDoorQ01
import Derived.Test.YtofidnijfnhpaaaGreatDoorQ50
import Derived.Test.YtofidnijfnhpaaaGreatDoorQ25
import Derived.Test.YtofidnijfnhpaaaGreatDoorQ16
import Derived.Test.YtofidnijfnhpaaaGreatDoorQ08
import Derived.Test.YtofidnijfnhpaaaGreatDoorQ09
import Derived.Test.YtofidnijfnhpaaaGreatDoorQ44
import Derived.Test.YtofidnijfnhpaaaGreatDoorQ30
set_option linter.unusedSimpArgs false
set_option linter.unusedVariables false
set_option linter.unusedSectionVars false
set_option maxRecDepth 1000000
set_option maxHeartbeats 16000000
namespace Go.Proofs.YtofidnijfnhpaaaGreatDoor
open Go.RowKit
theorem QkZ (va N:Option Addr) (c m O I J:Nat) (j:Jb) (w:World) (K:j.outs=.slice N m O) (T:QaP j.code=((I:Int),(J:Int))) (hm:m<=1000) (M:I<=2) (V:J<=2):
 Calls Tryz.prog 13 #[.agg j.cells,.slice va 0 c] w fun e A=>e=.returned (.tuple #[.slice none 0 0,.int .i64 1])/\Below w.heap.size w A:=by
 have F:∀W,Calls Tryz.prog 9 #[.agg j.cells,.slice none 0 0] W fun e A=>e=.returned (.tuple #[.slice none 0 0,.int .i64 1])/\Below W.heap.size W A:=fun W=>(QeP none N 0 0 m O j I J W K T (by omega) hm M V (by omega)).mono (by
  rintro e A ⟨⟨-,h⟩|⟨h,-⟩,h'⟩
  ·exact⟨h,h'⟩
  ·cases h)
 unfold Jb.cells at F
 have HC:=Hk F
 clear F K T
 have q:=Qbd w j 28
 unfold Jb.cells at q⊢
 have D:=Hk q
 clear q
 go_enter Tryz.func13,Tryz.ntmps13
 go_wp2
 refine QbH (G:=fun w=>Code.wp _ _ _ _ w) (fun y=>Qaz y w.heap.size j/\Below w.heap.size w y/\w.heap.size<y.heap.size) _ ⟨D.out,Qab _ _,by simp⟩ ?_
 clear D
 intro y ⟨o,E,ag⟩
 have U:=Hk (Ai o E)
 clear o E
 go_loopw [6,38] (fun l i wr=>l=.slice none 0 0/\i=.int .i64 0/\wr=y) (fun _ _ _=>0)
 case atStart=>exact⟨rfl,rfl,rfl⟩
 case round=>
  obtain⟨rfl,rfl,z⟩:=hrel
  have o:Qaz wr w.heap.size j:=by rw[z];exact U.out.1
  have B:Below w.heap.size w wr:=by rw[z];exact U.out.2
  have HB:=Hk B
  have al:=o.lt
  have j0:wr.cell? ⟨w.heap.size,0,none⟩=some (.int .i64 j.at_):=o 0 _ rfl
  have j1:wr.cell? ⟨w.heap.size,1,none⟩=some (.int .i64 j.code):=o 1 _ rfl
  have j2:wr.cell? ⟨w.heap.size,2,none⟩=some (j.outs):=o 2 _ rfl
  have j3:wr.cell? ⟨w.heap.size,3,none⟩=some (j.ins):=o 3 _ rfl
  have j4:wr.cell? ⟨w.heap.size,4,none⟩=some (j.cols):=o 4 _ rfl
  have j5:wr.cell? ⟨w.heap.size,5,none⟩=some (.string j.op):=o 5 _ rfl
  have j6:wr.cell? ⟨w.heap.size,6,none⟩=some (.string j.left.1):=o 6 _ rfl
  have j7:wr.cell? ⟨w.heap.size,7,none⟩=some (.int .i64 j.left.2.1):=o 7 _ rfl
  have j8:wr.cell? ⟨w.heap.size,8,none⟩=some (.int .i64 j.left.2.2.1):=o 8 _ rfl
  have j9:wr.cell? ⟨w.heap.size,9,none⟩=some (.string j.left.2.2.2):=o 9 _ rfl
  have ak:wr.cell? ⟨w.heap.size,10,none⟩=some (.string j.right.1):=o 10 _ rfl
  have af:wr.cell? ⟨w.heap.size,11,none⟩=some (.int .i64 j.right.2.1):=o 11 _ rfl
  have aj:wr.cell? ⟨w.heap.size,12,none⟩=some (.int .i64 j.right.2.2.1):=o 12 _ rfl
  have ai:wr.cell? ⟨w.heap.size,13,none⟩=some (.string j.right.2.2.2):=o 13 _ rfl
  have ah:wr.cell? ⟨w.heap.size,14,none⟩=some (.int .i64 j.retry):=o 14 _ rfl
  clear o B z
  go_wp2_with (go_at_call 9;refine(HC.out _).mono ?_;rintro e w1 ⟨rfl,Z⟩)
  go_ret2
  exact⟨rfl,Qaa HB.out Z⟩
theorem QdF (c:Int):∃h j:Nat,QaP c=((h:Int),(j:Int))/\h<=2/\j<=2/\(h=0\/(h=2/\j=1/\(c=5\/c=7))\/(h=1/\j=2/\c=9)\/(h=1/\j=1/\(c=1\/c=2\/c=3\/c=4\/c=6\/c=8))):=by
 unfold QaP
 split
 ·exact⟨2,1,rfl,by omega,by omega,Or.inr (Or.inl ⟨rfl,rfl,by assumption⟩)⟩
 ·split
  ·exact⟨1,2,rfl,by omega,by omega,Or.inr (Or.inr (Or.inl ⟨rfl,rfl,by assumption⟩))⟩
  ·split
   ·exact⟨1,1,rfl,by omega,by omega,Or.inr (Or.inr (Or.inr ⟨rfl,rfl,by omega⟩))⟩
   ·exact⟨0,0,rfl,by omega,by omega,Or.inl rfl⟩
theorem Qfu {α:Type} {l:List α} (h:l.length=2):∃x y,l=[x,y]:=by
 match l,h with
 |[x,y],_=>exact⟨x,y,rfl⟩
theorem Qfv {α:Type} {l:List α} (h:l.length=1):∃x,l=[x]:=by
 match l,h with
 |[x],_=>exact⟨x,rfl⟩
theorem QmI {x:ByteArray} (h:(decide (x.data.toList=[115,117,109])||decide (x.data.toList=[109,97,120]))=true):∃mm,x=opB mm:=by
 simp only[Bool.or_eq_true,decide_eq_true_eq] at h
 rcases h with h|h
 ·exact⟨true,Qln h⟩
 ·exact⟨false,Qlo h⟩
theorem Qf5 (b:Bool):b=true\/b=false:=by cases b<;>simp
theorem Qk0 {w:World} {j:Jb} {ss:List ByteArray} {cs:List Cl} (q:JobIn w j ss 1) (z:Qah cs=true) (o:j.code=1\/j.code=2\/j.code=3\/j.code=4\/j.code=6\/j.code=8):∃no cs',ColsBoth w j [cs] 1 no cs':=by
 rcases o with o|o|o|o|o|o
 ·exact⟨_,_,QdW q o z⟩
 ·by_cases hl:ss.length=1
  ·obtain⟨x,A⟩:=Qfv hl
   rcases Qf5 (inS QaF j.op.data.toList) with h|h
   ·exact⟨_,_,QfY q o z x A h⟩
   ·exact⟨_,_,Qfr q o z hl h⟩
  ·exact⟨_,_,Qfq q o z hl⟩
 ·exact⟨_,_,QdY q o z⟩
 ·exact⟨_,_,QdZ q o z⟩
 ·exact⟨_,_,QgW q o z⟩
 ·by_cases hl:ss.length=2
  ·obtain⟨x,y,A⟩:=Qfu hl
   rcases Qf5 (decide (j.op.data.toList=[115,117,109])||decide (j.op.data.toList=[109,97,120])) with h|h
   ·exact⟨_,_,QfZ q o z x y A h⟩
   ·exact⟨_,_,Qft q o z hl h⟩
  ·exact⟨_,_,Qfs q o z hl⟩
theorem Qk1 {w:World} {j:Jb} {ss:List ByteArray} {cs A:List Cl} (q:JobIn w j ss 1) (z:Qah cs=true) (o:Qah A=true) (h:j.code=5\/j.code=7):∃no cs',ColsBoth w j [cs,A] 1 no cs':=by
 rcases h with h|h
 ·exact⟨_,_,Qf0 q h z o⟩
 ·by_cases hl:ss.length=2
  ·obtain⟨x,y,B⟩:=Qfu hl
   exact⟨_,_,QeU q h z o x y B⟩
  ·exact⟨_,_,QeT q h z o hl⟩
theorem Qi2 {w:World} {j:Jb} {ss:List ByteArray} {m:Nat} (D:JobIn w j ss m) (css:List (List Cl)) (F:∀cs∈css,Qah cs=true) (O:css.length<=1000) (M:m<=1000):∃no y cs,ColsBoth w j css y no cs:=by
 obtain⟨E,y,N,I,J,K⟩:=QdF j.code
 by_cases hbad:E=0\/css.length≠E\/m≠y
 ·exact⟨1,0,[],QgV D css E y N O M I J hbad⟩
 ·have o:css.length=E:=by omega
  obtain rfl:m=y:=by omega
  rcases K with U|⟨z,q,A⟩|⟨z,q,A⟩|⟨z,q,A⟩
  ·omega
  ·subst q
   rw[z] at o
   obtain⟨cs,T,rfl⟩:=Qfu o
   obtain⟨no,B,h⟩:=Qk1 D (F cs (by simp)) (F T (by simp)) A
   exact⟨no,1,B,h⟩
  ·subst q
   rw[z] at o
   obtain⟨cs,rfl⟩:=Qfv o
   exact⟨_,2,_,QdX D A (F cs (by simp))⟩
  ·subst q
   rw[z] at o
   obtain⟨cs,rfl⟩:=Qfv o
   obtain⟨no,B,h⟩:=Qk0 D (F cs (by simp)) A
   exact⟨no,1,B,h⟩
theorem Qmk {w:World} {F E:Nat} {t:Tb} {j:Jb} {ss:List ByteArray} (tcap:Nat) (z:JobIn w j ss 1) (A:Given w F E [t]) (q:Qan t.1 t.2=true) (o:j.code=1\/j.code=2\/j.code=3\/j.code=4\/j.code=6\/j.code=8):∃no ts,DoBoth w (some ⟨F,E,none⟩) 1 tcap j no ts:=by
 have B:=Qc8 q
 rcases o with o|o|o|o|o|o
 ·by_cases he:Qax t.1 j=0
  ·exact⟨_,_,Qf4 tcap z A o q he⟩
  ·exact⟨_,_,QaW (ts:=[t]) tcap A (Qf3 q) (by simp) (QdW z o B) he⟩
 ·by_cases hl:ss.length=1
  ·obtain⟨x,D⟩:=Qfv hl
   rcases Qf5 (inS QaF j.op.data.toList) with h|h
   ·by_cases he:Qa8 t.1 j x.data.toList=0
    ·exact QiZ tcap z A o q x D h he
    ·exact⟨_,_,QaW (ts:=[t]) tcap A (Qf3 q) (by simp) (QfY z o B x D h) he⟩
   ·exact⟨_,_,QaW (ts:=[t]) tcap A (Qf3 q) (by simp) (Qfr z o B hl h) (by decide)⟩
  ·exact⟨_,_,QaW (ts:=[t]) tcap A (Qf3 q) (by simp) (Qfq z o B hl) (by decide)⟩
 ·by_cases he:QaB t.1 ss=0
  ·exact⟨_,_,QhL tcap z A o q he⟩
  ·exact⟨_,_,QaW (ts:=[t]) tcap A (Qf3 q) (by simp) (QdY z o B) he⟩
 ·by_cases he:QaB t.1 ss=0
  ·exact⟨_,_,QhM tcap z A o q he⟩
  ·exact⟨_,_,QaW (ts:=[t]) tcap A (Qf3 q) (by simp) (QdZ z o B) he⟩
 ·exact⟨_,_,QhN tcap z A o q⟩
 ·by_cases hl:ss.length=2
  ·obtain⟨x,y,D⟩:=Qfu hl
   rcases Qf5 (decide (j.op.data.toList=[115,117,109])||decide (j.op.data.toList=[109,97,120])) with h|h
   ·by_cases he:QaG t.1 x y=0
    ·obtain⟨J,I⟩:=QmI h
     exact Qi1 tcap z A o q J I x y D he
    ·exact⟨_,_,QaW (ts:=[t]) tcap A (Qf3 q) (by simp) (QfZ z o B x y D h) he⟩
   ·exact⟨_,_,QaW (ts:=[t]) tcap A (Qf3 q) (by simp) (Qft z o B hl h) (by decide)⟩
  ·exact⟨_,_,QaW (ts:=[t]) tcap A (Qf3 q) (by simp) (Qfs z o B hl) (by decide)⟩
theorem Qml {w:World} {I E:Nat} {t u:Tb} {j:Jb} {ss:List ByteArray} (tcap:Nat) (A:JobIn w j ss 1) (B:Given w I E [t,u]) (z:Qan t.1 t.2=true) (h:Qan u.1 u.2=true) (o:j.code=5\/j.code=7):∃no ts,DoBoth w (some ⟨I,E,none⟩) 2 tcap j no ts:=by
 have D:=Qc8 z
 have q:=Qc8 h
 rcases o with o|o
 ·by_cases he:Qcj t.1 u.1=0
  ·exact⟨_,_,Qi0 tcap A B o z h he⟩
  ·exact⟨_,_,QaW (ts:=[t,u]) tcap B (Qcc z h) (by simp) (Qf0 A o D q) he⟩
 ·by_cases hl:ss.length=2
  ·obtain⟨x,y,F⟩:=Qfu hl
   by_cases he:QaQ t.1 u.1 x y=0
   ·exact⟨_,_,QhO tcap A B o z h x y F he⟩
   ·exact⟨_,_,QaW (ts:=[t,u]) tcap B (Qcc z h) (by simp) (QeU A o D q x y F) he⟩
  ·exact⟨_,_,QaW (ts:=[t,u]) tcap B (Qcc z h) (by simp) (QeT A o D q hl) (by decide)⟩
theorem Qk2 {w:World} {K D:Nat} {ts:List Tb} {j:Jb} {ss:List ByteArray} {m:Nat} (tcap:Nat) (z:JobIn w j ss m) (o:Given w K D ts) (N:0<ts.length) (U:m<=1000):∃no ts',DoBoth w (some ⟨K,D,none⟩) ts.length tcap j no ts':=by
 by_cases hgood:∀t∈ts,Qan t.1 t.2=true
 ·obtain⟨B,E,T,I,M,J⟩:=QdF j.code
  have O:=o.few
  by_cases hbad:B=0\/ts.length≠B\/m≠E
  ·exact⟨_,_,QaW tcap o hgood N (QgV z (ts.map (·.1)) B E T (by rw[List.length_map];omega) U I M (by rw[List.length_map];exact hbad)) (by decide)⟩
  ·have q:ts.length=B:=by omega
   obtain rfl:m=E:=by omega
   rcases J with V|⟨y,A,h⟩|⟨y,A,h⟩|⟨y,A,h⟩
   ·omega
   ·subst A
    rw[y] at q
    obtain⟨t,u,rfl⟩:=Qfu q
    exact Qml tcap z o (hgood t (by simp)) (hgood u (by simp)) h
   ·subst A
    rw[y] at q
    obtain⟨t,rfl⟩:=Qfv q
    have F:=hgood t (by simp)
    by_cases he:Qax t.1 j=0
    ·exact⟨_,_,QgY tcap z o h F he⟩
    ·exact⟨_,_,QaW (ts:=[t]) tcap o (Qf3 F) (by simp) (QdX z h (Qc8 F)) he⟩
   ·subst A
    rw[y] at q
    obtain⟨t,rfl⟩:=Qfv q
    exact Qmk tcap z o (hgood t (by simp)) h
 ·have:∃t∈ts,Qan t.1 t.2=false:=by
   apply Classical.byContradiction
   intro h
   exact hgood fun t ht=>by
    cases g:Qan t.1 t.2 with
    |true=>rfl
    |false=>exact absurd ⟨t,ht,g⟩ h
  exact⟨_,_,QiY tcap j o this⟩
theorem QgZ {w:World} {j:Jb} {ss:List ByteArray} {m:Nat} (o:Option Addr) (tcap:Nat) (I:JobIn w j ss m) (J:m<=1000):DoBoth w o 0 tcap j 1 []:=by
 obtain⟨E,F,z,A,B,-⟩:=QdF j.code
 obtain⟨q,y,D⟩:=I.outs
 exact⟨fun W hW=>(QkZ o q tcap m y E F j W D z J A B).mono fun e w' h=>⟨Or.inl ⟨by decide,h.1⟩,h.2⟩,fun W hW=>(Qlw o q tcap m y E F j W D z).mono fun e w' h=>⟨Or.inl ⟨by decide,h.1⟩,h.2⟩⟩
theorem Qkb {w:World} {j:Jb} {ss:List ByteArray} {m:Nat} (J:JobIn w j ss m) (css:List (List Cl)) (hr:∀cs∈css,Qah cs=true) (Z:css.length<=1000) (V:m<=1000):∃no h cs,∀W B hv us,Below w.heap.size w W->W.ownsRow B 33 1 hv css.length us->QaA W us css->
 Calls Tryz.prog 9 #[.agg j.cells,hv] W (fun e o=>QaO e o W.heap.size no (List.replicate h cs)/\Below W.heap.size W o)/\Calls Tryz.prog 10 #[.agg j.cells,hv] W (fun e o=>QlR e o W.heap.size no h cs/\Below W.heap.size W o):=by
 obtain⟨I,K,T⟩:=J.outs
 rcases Nat.eq_zero_or_pos css.length with A|A
 ·obtain⟨F,h,M,E,U,-⟩:=QdF j.code
  refine⟨1,0,[],fun W B hv us hW hown hh=>?_⟩
  rw[A] at hown
  obtain⟨O,N,rfl⟩:=Qae hown
  refine⟨QeP O I 0 N m K j F h W T M (by omega) V E U (by omega),(QfD O I 0 N m K j F h W T M (by omega)).mono ?_⟩
  rintro e o ⟨y,q⟩
  exact⟨Or.inl ⟨by decide,y⟩,q⟩
 ·obtain⟨no,h,cs,D⟩:=Qi2 J css hr Z V
  refine⟨no,h,cs,fun W B hv us hW hown hh=>?_⟩
  obtain⟨g,z,rfl,-⟩:=Qci hown A
  obtain⟨y,q⟩:=QdE rfl hown hh
  exact⟨D.ref W g z hW q y,D.ops W g z hW q y⟩
def QdG (e:Ending) (F:Prop):Prop:=∃bb,e=.returned (.bool bb)/\(bb=true->F)
theorem QdG.no {F:Prop}:QdG (.returned (.bool false)) F:=⟨false,rfl,nofun⟩
theorem QdG.yes {F:Prop} (h:F):QdG (.returned (.bool true)) F:=⟨true,rfl,fun _=>h⟩
structure ShortJ (mo:Nat) (j:Jb) (ss:List ByteArray):Prop where
 outs:mo<=8
 few:ss.length<=12
 op:j.op.size<=20
 left:j.left.2.2.2.size<=40
 right:j.right.2.2.2.size<=40
theorem Qi3 (j:Jb) (ss:List ByteArray) (J B:Option Addr) (z F D I:Nat) (w:World) (Z:j.outs=.slice J z D) (O:j.ins=.slice B F I) (h:QaX w j.cols ss) (hsz:j.sized) (A:∀s∈ss,s.size<=maxLen):
 Calls Tryz.prog 4 #[.agg j.cells] w fun e w'=>QdG e (ShortJ z j ss)/\Below w.heap.size w w':=by
 obtain⟨z1,z2,z3,N,z5⟩:=hsz
 have M:=Hk A
 clear A
 unfold maxLen at z1 z2 z3 N z5
 obtain⟨a,c,U,-,hl,q⟩:=h
 unfold Jb.cells
 rw[U,Z,O]
 have y:=Hk (Qab w (.cells #[.int .i64 j.at_,.int .i64 j.code,.slice J z D,.slice B F I,.slice a ss.length c,.string j.op,.string j.left.1,.int .i64 j.left.2.1,.int .i64 j.left.2.2.1,.string j.left.2.2.2,.string j.right.1,.int .i64 j.right.2.1,.int .i64 j.right.2.2.1,.string j.right.2.2.2,.int .i64 j.retry] 28))
 have K:=Hk q
 clear q
 go_enter Tryz.func4,Tryz.ntmps4
 go_wp2
 all_goals try(go_ret;exact⟨QdG.no,y.out⟩)
 ·have V:=Hk (show ShortJ z j ss by constructor<;>omega)
  go_loopw [3] (fun i wr=>∃k:Nat,k<=ss.length/\i=.int .i64 k/\wr=w.alloc (.cells #[.int .i64 j.at_,.int .i64 j.code,.slice J z D,.slice B F I,.slice a ss.length c,.string j.op,.string j.left.1,.int .i64 j.left.2.1,.int .i64 j.left.2.2.1,.string j.left.2.2.2,.string j.right.1,.int .i64 j.right.2.1,.int .i64 j.right.2.2.1,.string j.right.2.2.2,.int .i64 j.retry] 28)) (fun i _=>ss.length-(intOf i).toNat)
  case atStart=>exact⟨0,Nat.zero_le _,rfl,rfl⟩
  case round=>
   obtain⟨k,hk,rfl,rfl⟩:=hrel
   by_cases hlt:k<ss.length
   ·have E:(k:Int)<(ss.length:Int):=by omega
    rcases K.out with h|⟨b,o,rfl,T,q⟩
    ·rw[h] at hlt;simp at hlt
    have d1:=q k hlt
    have d2:=cK y.out T d1
    have hz:=M.out _ (List.getElem_mem hlt)
    unfold maxLen at hz
    generalize ss[k]=s at*
    clear q d1
    go_wp2
    ·go_ret
     exact⟨QdG.no,y.out⟩
    ·go_roundw
     case rel=>exact⟨k+1,by omega,by go_num,by first|rfl|trivial⟩
     case measure=>simp[intOf];omega
   ·have E:¬(k:Int)<(ss.length:Int):=by omega
    go_wp2
    go_ret
    exact⟨QdG.yes V.out,y.out⟩
def Qfw (cs:List Cl):Prop:=cs.length<=10/\∀x∈cs,x.1.size<=1000
theorem Qkc (vc vr:Value) (cs:List Cl) (rs:List (List Vl)) (w:World) (hc:Qav w vc cs) (hr:QaC w vr rs):
 Calls Tryz.prog 5 #[.agg #[vc,vr]] w fun e w'=>QdG e (Qfw cs)/\Below w.heap.size w w':=by
 have HC:=Hk hc
 have HR:=Hk hr
 obtain⟨I,z,rfl,-⟩:=hc
 obtain⟨M,y,rfl,-⟩:=hr
 go_enter Tryz.func5,Tryz.ntmps5
 have x0:(w.alloc (.cells #[.slice I cs.length z,.slice M rs.length y] 36)).cell? ⟨w.heap.size,0,none⟩=some (.slice I cs.length z):=by simp
 have x1:(w.alloc (.cells #[.slice I cs.length z,.slice M rs.length y] 36)).cell? ⟨w.heap.size,1,none⟩=some (.slice M rs.length y):=by simp
 have HB:Aside (Below w.heap.size w (w.alloc (.cells #[.slice I cs.length z,.slice M rs.length y] 36))):=Qab _ _
 go_wp2
 all_goals try(go_ret;exact⟨QdG.no,HB.out⟩)
 ·obtain⟨W0,O⟩:∃x,x=w.alloc (.cells #[.slice I cs.length z,.slice M rs.length y] 36):=⟨_,rfl⟩
  rw[<-O] at x0 x1 HB⊢
  have aY:=Hk O
  clear O
  have aa:cs.length<=10:=by omega
  have aU:rs.length<=70:=by omega
  go_loopw [3] (fun i wr=>∃k:Nat,k<=cs.length/\i=.int .i64 k/\wr=W0/\∀(q:Nat) (h:q<cs.length),q<k->cs[q].1.size<=1000) (fun i _=>cs.length-(intOf i).toNat)
  case atStart=>exact⟨0,Nat.zero_le _,rfl,rfl,fun q h h'=>absurd h' (by omega)⟩
  case round=>
   obtain⟨k,hk,rfl,J,T⟩:=hrel
   have HA:=Hk T
   clear T
   have y0:wr.cell? ⟨w.heap.size,0,none⟩=some (.slice I cs.length z):=by rw[J];exact x0
   have y1:wr.cell? ⟨w.heap.size,1,none⟩=some (.slice M rs.length y):=by rw[J];exact x1
   have ab:Aside (Below w.heap.size w wr):=by rw[J];exact HB
   have aI:=Hk J
   clear J x0 x1
   by_cases hlt:k<cs.length
   ·have ai:(k:Int)<(cs.length:Int):=by omega
    obtain⟨b,o,c,F,aw,hb,ad,hsz⟩:=QdV HC.out (by omega)
    simp only[Value.slice.injEq] at F
    obtain⟨rfl,-,rfl⟩:=F
    obtain⟨d1,-⟩:=ad k hlt
    have d2:=cK ab.out hb d1
    have hz:=hsz _ (List.getElem_mem hlt)
    have ax:=Hk (show∀(q:Nat) (h:q<cs.length),cs[k].1.size<=40->q<k+1->cs[q].1.size<=1000 from fun q h h1 h2=>by
     rcases Nat.lt_or_ge q k with h3|h3
     ·exact HA.out q h h3
     ·obtain rfl:q=k:=by omega
      omega)
    unfold maxLen at hz
    generalize cs[k].1=s at*
    clear ad d1 hsz aw
    go_wp2
    ·go_ret
     exact⟨QdG.no,ab.out⟩
    ·have au:s.size<=40:=by omega
     go_roundw
     case rel=>exact⟨k+1,by omega,by go_num,aI.out,fun q h h'=>ax.out q h au h'⟩
     case measure=>simp[intOf];omega
   ·have ai:¬(k:Int)<(cs.length:Int):=by omega
    have az:=Hk (show Qfw cs from⟨aa,fun x hx=>by
     obtain⟨q,hq,rfl⟩:=List.mem_iff_getElem.1 hx
     exact HA.out q hq (by omega)⟩)
    clear HA aa
    go_wp2
    obtain⟨W1,N⟩:∃x,x=wr:=⟨_,rfl⟩
    rw[<-N]
    go_loopw [4] (fun i wr=>∃k:Nat,k<=rs.length/\i=.int .i64 k/\wr=W1) (fun i _=>rs.length-(intOf i).toNat)
    case atStart=>exact⟨0,Nat.zero_le _,rfl,rfl⟩
    case round=>
     obtain⟨m,hm,rfl,A⟩:=hrel
     have z0:wr.cell? ⟨w.heap.size,0,none⟩=some (.slice I cs.length z):=by rw[A,N];exact y0
     have z1:wr.cell? ⟨w.heap.size,1,none⟩=some (.slice M rs.length y):=by rw[A,N];exact y1
     have E:Aside (Below w.heap.size w wr):=by rw[A,N];exact ab
     have ar:=Hk A
     clear A
     by_cases hmt:m<rs.length
     ·have am:(m:Int)<(rs.length:Int):=by omega
      obtain⟨a',c',F,D⟩:=HR.out
      simp only[Value.slice.injEq,true_and] at F
      obtain⟨rfl,rfl⟩:=F
      rcases D with h|⟨b,o,rfl,hb,D⟩
      ·rw[h] at hmt;simp at hmt
      obtain⟨u,d1,hu⟩:=D m hmt
      have d2:=cK E.out hb d1
      obtain⟨ua,uc,rfl,ae,ah⟩:=hu
      generalize rs[m]=r at*
      clear D d1
      have ay:=Hk ah
      have aG:=Hk ae
      clear ah ae
      obtain⟨K,Z⟩:∃x,r.length=x:=⟨_,rfl⟩
      have af:=Hk Z
      rw[Z] at d2
      clear Z
      go_wp2
      ·go_ret
       exact⟨QdG.no,E.out⟩
      ·have aR:K<=10:=by omega
       obtain⟨W2,B⟩:∃x,x=wr:=⟨_,rfl⟩
       rw[<-B]
       go_loopw [5] (fun i wr=>∃k:Nat,k<=K/\i=.int .i64 k/\wr=W2) (fun i _=>K-(intOf i).toNat)
       case atStart=>exact⟨0,Nat.zero_le _,rfl,rfl⟩
       case round=>
        obtain⟨t,ht,rfl,j⟩:=hrel
        have q0:wr.cell? ⟨w.heap.size,0,none⟩=some (.slice I cs.length z):=by rw[j,B];exact z0
        have q1:wr.cell? ⟨w.heap.size,1,none⟩=some (.slice (some ⟨b,o,none⟩) rs.length y):=by rw[j,B];exact z1
        have q2:wr.cell? ⟨b,o+m,none⟩=some (.slice ua K uc):=by rw[j,B];exact d2
        have U:Aside (Below w.heap.size w wr):=by rw[j,B];exact E
        have V:=Hk j
        clear j
        by_cases htt:t<K
        ·have aq:(t:Int)<(K:Int):=by omega
         rcases ay.out with h|⟨b3,o3,rfl,aA,ac⟩
         ·have:=af.out;rw[h] at this;simp at this;omega
         have ag:t<r.length:=by have:=af.out;omega
         obtain⟨-,-,f2⟩:=ac t ag
         have f3:=cK U.out aA f2
         have hz:=aG.out _ (List.getElem_mem ag)
         unfold maxLen at hz
         generalize r[t].2.2=s at*
         clear ac f2
         go_wp2
         ·go_ret
          exact⟨QdG.no,U.out⟩
         ·go_roundw
          case rel=>exact⟨t+1,by omega,by go_num,V.out⟩
          case measure=>simp[intOf];omega
        ·have aq:¬(t:Int)<(K:Int):=by omega
         go_wp2
         go_roundw
         case rel=>exact⟨m+1,by omega,by go_num,by rw[V.out,B];exact ar.out⟩
         case measure=>simp[intOf];omega
     ·have am:¬(m:Int)<(rs.length:Int):=by omega
      go_wp2
      go_ret
      exact⟨QdG.yes az.out,E.out⟩
theorem Qg0 (a b:Option Addr) (c d:Nat) (w:World):Calls Tryz.prog 41 #[.slice a 0 c,.slice b 0 d] w fun e w'=>e=.returned (.bool true)/\Below w.heap.size w w':=by
 go_enter Tryz.func41,Tryz.ntmps41
 go_wp2
 go_loopw [5] (fun i wr=>i=.int .i64 0/\wr=w) (fun _ _=>0)
 case atStart=>exact⟨rfl,rfl⟩
 case round=>
  obtain⟨rfl,rfl⟩:=hrel
  go_wp2
  go_ret
  exact⟨rfl,Below.refl _ _⟩
theorem QhP (u v:Value) (r:List Vl) (w:World) (B:Qbk w u r) (E:Qbk w v r) (I:r.length<=maxLen):Calls Tryz.prog 41 #[u,v] w fun e w'=>e=.returned (.bool true)/\Below w.heap.size w w':=by
 rcases Nat.eq_zero_or_pos r.length with h|h
 ·obtain⟨a,c,rfl,-⟩:=B
  obtain⟨b,d,rfl,-⟩:=E
  rw[h]
  exact Qg0 a b c d w
 obtain⟨b,o,c,rfl,M,A,-⟩:=QeS B h
 obtain⟨b2,O,c2,rfl,J,j,-⟩:=QeS E h
 unfold maxLen at I
 obtain⟨n,F⟩:∃x,r.length=x:=⟨_,rfl⟩
 have K:=Hk F
 have y:=Hk (Ai A j)
 clear B E A j h
 rw[F] at I⊢
 clear F
 go_enter Tryz.func41,Tryz.ntmps41
 go_wp2
 go_loopw [5] (fun i wr=>∃k:Nat,k<=n/\i=.int .i64 k/\Aside (Below w.heap.size w wr)) (fun i _=>n-(intOf i).toNat)
 case atStart=>exact⟨0,Nat.zero_le _,rfl,Below.refl _ _⟩
 case round=>
  obtain⟨k,T,rfl,q⟩:=hrel
  by_cases hlt:k<n
  ·have D:(k:Int)<(n:Int):=by omega
   have z:k<r.length:=by have:=K.out;omega
   obtain⟨c0,c1,N⟩:=(y.out.1.below q.out M) k z
   obtain⟨d0,d1,d2⟩:=(y.out.2.below q.out J) k z
   generalize r[k]=x at*
   go_wp2
   go_quiet (fail)
   go_wp2
   go_roundw
   case rel=>exact⟨k+1,by omega,by go_num,below_drewN q.out _⟩
   case measure=>simp[intOf];omega
  ·have D:¬(k:Int)<(n:Int):=by omega
   go_wp2
   go_ret
   exact⟨rfl,q.out⟩
theorem Qf6 (a b:Option Addr) (c d:Nat) (w:World):Calls Tryz.prog 12 #[.slice a 0 c,.slice b 0 d] w fun e w'=>e=.returned (.bool true)/\Below w.heap.size w w':=by
 go_enter Tryz.func12,Tryz.ntmps12
 go_wp2
 go_loopw [5] (fun i wr=>i=.int .i64 0/\wr=w) (fun _ _=>0)
 case atStart=>exact⟨rfl,rfl⟩
 case round=>
  obtain⟨rfl,rfl⟩:=hrel
  go_wp2
  go_ret
  exact⟨rfl,Below.refl _ _⟩
theorem Qd8 (u v:Value) (r:List Cl) (w:World) (B:Qav w u r) (E:Qav w v r) (I:r.length<=maxLen):Calls Tryz.prog 12 #[u,v] w fun e w'=>e=.returned (.bool true)/\Below w.heap.size w w':=by
 rcases Nat.eq_zero_or_pos r.length with h|h
 ·obtain⟨a,c,rfl,-⟩:=B
  obtain⟨b,d,rfl,-⟩:=E
  rw[h]
  exact Qf6 a b c d w
 obtain⟨b,o,c,rfl,-,M,A,-⟩:=QdV B h
 obtain⟨b2,N,c2,rfl,-,J,j,-⟩:=QdV E h
 unfold maxLen at I
 obtain⟨n,F⟩:∃x,r.length=x:=⟨_,rfl⟩
 have K:=Hk F
 have y:=Hk (Ai A j)
 clear B E A j h
 rw[F] at I⊢
 clear F
 go_enter Tryz.func12,Tryz.ntmps12
 go_wp2
 go_loopw [5] (fun i wr=>∃k:Nat,k<=n/\i=.int .i64 k/\Aside (Below w.heap.size w wr)) (fun i _=>n-(intOf i).toNat)
 case atStart=>exact⟨0,Nat.zero_le _,rfl,Below.refl _ _⟩
 case round=>
  obtain⟨k,O,rfl,q⟩:=hrel
  by_cases hlt:k<n
  ·have D:(k:Int)<(n:Int):=by omega
   have z:k<r.length:=by have:=K.out;omega
   obtain⟨c0,c1⟩:=(y.out.1.below q.out M) k z
   obtain⟨d0,d1⟩:=(y.out.2.below q.out J) k z
   generalize r[k]=x at*
   go_wp2
   go_quiet (fail)
   go_wp2
   go_roundw
   case rel=>exact⟨k+1,by omega,by go_num,below_drewN q.out _⟩
   case measure=>simp[intOf];omega
  ·have D:¬(k:Int)<(n:Int):=by omega
   go_wp2
   go_ret
   exact⟨rfl,q.out⟩
theorem QhQ (va ra vb rb:Value) (cs:List Cl) (rs:List (List Vl)) (w:World) (ha:Qav w va cs) (ac:QaC w ra rs) (M:Qav w vb cs) (O:QaC w rb rs) (hl:cs.length<=maxLen) (ab:rs.length<=maxLen) (N:∀r∈rs,r.length<=maxLen):Calls Tryz.prog 15 #[.agg #[va,ra],.agg #[vb,rb]] w fun e w'=>e=.returned (.bool true)/\Below w.heap.size w w':=by
 have aM:=Hk (fun W (hW:Below w.heap.size w W)=>Qd8 va vb cs W (ha.below hW) (M.below hW) hl)
 have av:=Hk ac
 have aJ:=Hk O
 obtain⟨xa,xc,rfl,-⟩:=ha
 obtain⟨ya,yc,rfl,-⟩:=M
 obtain⟨pa,pc,rfl,-⟩:=ac
 obtain⟨qa,qc,rfl,-⟩:=O
 have E:=Hk (Qad (Qab w (.cells #[.slice xa cs.length xc,.slice pa rs.length pc] 36)) (.cells #[.slice ya cs.length yc,.slice qa rs.length qc] 36))
 obtain⟨n,hn⟩:∃x,rs.length=x:=⟨_,rfl⟩
 have HN:=Hk hn
 have am:=Hk N
 rw[hn] at E ab⊢
 clear hl N
 unfold maxLen at ab
 go_enter Tryz.func15,Tryz.ntmps15
 go_wp2_with (go_at_call 12;refine(aM.out _ E.out).mono ?_;rintro e J ⟨rfl,D⟩;have y:=Qaa E.out D;have x1:=(D.cell (p:=⟨w.heap.size,1,none⟩) (by simp;omega)).trans (show _=some (Value.slice pa n pc) by simp);have y1:=(D.cell (p:=⟨w.heap.size+1,1,none⟩) (by simp)).trans (show _=some (Value.slice qa n qc) by simp);have U:w.heap.size+1<J.heap.size:=(by have:=D.size;simp at this;omega);have ay:=Hk (Ai y (Ai x1 (Ai y1 U)));clear D y)
 go_loopw [5] (fun i wr=>∃k:Nat,k<=n/\i=.int .i64 k/\Aside (Below J.heap.size J wr)) (fun i _=>n-(intOf i).toNat)
 case atStart=>exact⟨0,Nat.zero_le _,rfl,Below.refl _ _⟩
 case round=>
  obtain⟨k,hk,rfl,K⟩:=hrel
  obtain⟨y,Z,aa,I⟩:=ay.out
  have x2:wr.cell? ⟨w.heap.size,1,none⟩=some (.slice pa n pc):=cK K.out (by omega) Z
  have y2:wr.cell? ⟨w.heap.size+1,1,none⟩=some (.slice qa n qc):=cK K.out I aa
  have z:=Qaa y K.out
  clear Z aa I y x1 y1 U
  by_cases hlt:k<n
  ·have af:(k:Int)<(n:Int):=by omega
   have q:k<rs.length:=by have:=HN.out;omega
   obtain⟨a',c',B,A⟩:=av.out
   simp only[Value.slice.injEq,true_and] at B
   obtain⟨rfl,rfl⟩:=B
   obtain⟨a2,c2,B,j⟩:=aJ.out
   simp only[Value.slice.injEq,true_and] at B
   obtain⟨rfl,rfl⟩:=B
   rcases A with h|⟨b,o,rfl,M,A⟩
   ·rw[h] at q;simp at q
   rcases j with h|⟨b2,o2,rfl,ax,j⟩
   ·rw[h] at q;simp at q
   obtain⟨u,d1,hu⟩:=A k q
   obtain⟨v,e1,hv⟩:=j k q
   have T:=fun V (hV:Below w.heap.size w V)=>QhP u v rs[k] V (hu.below hV) (hv.below hV) (am.out _ (List.getElem_mem q))
   obtain⟨ua,uc,rfl,-⟩:=hu
   obtain⟨aW,aV,rfl,-⟩:=hv
   generalize rs[k].length=rl at*
   have s0:=cell_regrown x2
   have s1:=cell_regrown y2
   have s2:=cell_regrown (cK z M d1)
   have s3:=cell_regrown (cK z ax e1)
   have C1:∀d os,_:=fun d os=>Calls.regrown_of (T (Sort.grow (redrawn wr d) os) (Qaa z (below_regrown _ _ _)))
   clear d1 e1 A j T z
   go_wp2
   refine wp_region_quiet_below (by kernel_rfl) (by kernel_rfl) ?_
   repeat(any_goals(first|go_big_quiet_step (exact C1 _ _)|quiet_step (exact C1 _ _)))
   refine wpQuiet_nil ?_
   intro _ au
   obtain⟨⟨dq,F⟩,aj⟩:=au
   subst aj
   have ao:Aside (Below J.heap.size J (Sort.grow (redrawn wr dq) F)):=Qaa K.out (below_regrown wr dq F)
   clear s0 s1 s2 s3 C1 x2 y2
   generalize Sort.grow (redrawn wr dq) F=W5 at*
   go_wp2
   go_roundw
   case rel=>exact⟨k+1,by omega,by go_num,ao⟩
   case measure=>simp[intOf];omega
  ·have af:¬(k:Int)<(n:Int):=by omega
   have aL:=Hk z
   clear z
   go_wp2
   go_ret
   exact⟨rfl,aL.out⟩
end Go.Proofs.YtofidnijfnhpaaaGreatDoor
