import Derived.Test.YtjlgejennghhlaaGreatDoorR01
import Derived.Test.YtjlgejennghhlaaGreatDoorR06
set_option linter.unusedSimpArgs false
set_option linter.unusedVariables false
set_option linter.unusedSectionVars false
set_option maxRecDepth 1000000
set_option maxHeartbeats 16000000
namespace Go.Proofs.YtjlgejennghhlaaGreatDoor
open Go.RowKit
abbrev Tb:=List Cl×List (List Vl)
def QaZ (w:World) (b o:Nat) (ts:List Tb):Prop:=∀(j:Nat) (h:j<ts.length),∃vc vr,w.cell? ⟨b,o+j*2,none⟩=some vc/\w.cell? ⟨b,o+j*2+1,none⟩=some vr/\Qax w vc ts[j].1/\QaG w vr ts[j].2
theorem QaZ.below {w w':World} {b o:Nat} {ts:List Tb} (h:QaZ w b o ts) (y:Below w.heap.size w w') (D:b<w.heap.size):QaZ w' b o ts:=fun j hj=>by
 obtain⟨E,J,I,F,K,H⟩:=h j hj;exact⟨E,J,cK y D I,cK y D F,K.below y,H.below y⟩
def Qa3 (code:Int):Int×Int:=if code=5\/code=7 then(2,1) else if code=9 then(1,2) else if 1<=code/\code<=8 then(1,1) else(0,0)
theorem Qfz (code:Int) (w:World):
 Calls Tryz.prog 95 #[.int .i64 code] w fun e w'=>e=.returned (.tuple #[.int .i64 (Qa3 code).1,.int .i64 (Qa3 code).2])/\w'=w:=by
 by_cases h:1<=code/\code<=9
 ·have:code=1\/code=2\/code=3\/code=4\/code=5\/code=6\/code=7\/code=8\/code=9:=by omega
  clear h;rcases this with h|h|h|h|h|h|h|h|h
  all_goals
   subst h;go_enter Tryz.func95,Tryz.ntmps95;go_wp2
   go_ret2
   exact⟨rfl,rfl⟩
 ·have F:¬(code=1):=by omega
  have N:¬(code=2):=by omega
  have H:¬(code=3):=by omega
  have J:¬(code=4):=by omega
  have E:¬(code=5):=by omega
  have I:¬(code=6):=by omega
  have K:¬(code=7):=by omega
  have M:¬(code=8):=by omega
  have D:¬(code=9):=by omega
  have y:Qa3 code=(0,0):=by
   unfold Qa3;rw[if_neg (by omega),if_neg D,if_neg (by omega)]
  rw[y];clear h y;go_enter Tryz.func95,Tryz.ntmps95;go_wp2
  go_ret2
  exact⟨rfl,rfl⟩
def Qb1 (cs:List Cl) (x:Ag):Int:=if x.1.data.toList=[] then(if rvB x.2=true then x.2.1 else 0) else match Qaq cs x.1.data.toList with
 |some i=>if x.2.1=0/\x.2.2.1=0/\x.2.2.2.data.toList=[] then(cs[i]?.getD (⟨#[]⟩,0)).2 else 0
 |none=>0
theorem QfA (b o n c:Nat) (cs:List Cl) (x:Ag) (w:World) (U:cs.length=n) (ad:n<=100) (hb:b<w.heap.size) (I:Qau w b o cs) (hx:x.2.2.2.size<=maxLen):
 Calls Tryz.prog 167 #[aggA x,.slice (some ⟨b,o,none⟩) n c] w fun e w'=>e=.returned (.int .i64 (Qb1 cs x))/\Below w.heap.size w w':=by
 by_cases h0:x.1.data.toList=[]
 ·have he:x.1.toList.isEmpty=true:=by rw[ByteArray.toList_eq,h0];rfl
  have D:Qb1 cs x=if rvB x.2=true then x.2.1 else 0:=by unfold Qb1;rw[if_pos h0]
  have H:=fun W=>Qbb x.2.1 x.2.2.1 x.2.2.2 W hx
  rw[show Qao x.2.1 x.2.2.1 x.2.2.2.data.toList=rvB x.2 from rfl] at H
  cases g:rvB x.2
  ·rw[g] at H D;have HR:=Hk H;rw[D];clear H D g h0 U I;go_enter Tryz.func167,Tryz.ntmps167;go_wp2_with (go_at_call 65;refine(HR.out _).mono ?_;rintro e K ⟨rfl,y⟩);go_ret;exact⟨rfl,bel_then (Qaa _ _) y⟩
  ·rw[g] at H D;have HR:=Hk H;rw[D];clear H D g h0 U I;go_enter Tryz.func167,Tryz.ntmps167;go_wp2_with (go_at_call 65;refine(HR.out _).mono ?_;rintro e K ⟨rfl,y⟩;obtain⟨F,E⟩:=QaQ y);go_ret;exact⟨rfl,bel_then (Qaa _ _) y⟩
 ·have he:x.1.toList.isEmpty=false:=by
   rw[ByteArray.toList_eq]
   cases h:x.1.data.toList with
   |nil=>exact absurd h h0
   |cons a q=>rfl
  have O:=fun W (h1:Below w.heap.size w W)=>QaH b o n c cs x.1 W U ad (by have:=h1.size;omega) (I.below h1 hb)
  cases g:Qaq cs x.1.data.toList with
  |none=>
   have D:Qb1 cs x=0:=by unfold Qb1;rw[if_neg h0,g]
   rw[show QaB cs x.1.data.toList= -1 by rw[QaB,g]] at O;have M:=Hk O;rw[D];clear O D g h0 U I;go_enter Tryz.func167,Tryz.ntmps167;go_wp2_with (go_at_call 133;refine(M.out _ (Qaa _ _)).mono ?_;rintro e K ⟨rfl,y⟩;obtain⟨F,E⟩:=QaQ y);go_ret;exact⟨rfl,bel_then (Qaa _ _) y⟩
  |some i=>
   have J:=Qap g;have D:Qb1 cs x=if x.2.1=0/\x.2.2.1=0/\x.2.2.2.data.toList=[] then cs[i].2 else 0:=by
    unfold Qb1;rw[if_neg h0,g];simp only[List.getElem?_eq_getElem J,Option.getD_some]
   rw[show QaB cs x.1.data.toList=(i:Int) by rw[QaB,g]] at O;have M:=Hk O;have d1:=(I i J).1;have d2:=(I i J).2;have ag:(i:Int)<(n:Int):=by omega
   rw[D];clear O D g h0 I;generalize ab:cs[i]=ci at*;clear ab J U
   by_cases Z:x.2.1=0
   ·by_cases V:x.2.2.1=0
    ·by_cases N:x.2.2.2.data.toList=[]
     ·have z3':x.2.2.2.toList.isEmpty=true:=by rw[ByteArray.toList_eq,N];rfl
      rw[if_pos ⟨Z,V,N⟩];clear N;go_enter Tryz.func167,Tryz.ntmps167;go_wp2_with (go_at_call 133;refine(M.out _ (Qaa _ _)).mono ?_;rintro e K ⟨rfl,y⟩;obtain⟨F,E⟩:=QaQ y);go_ret;exact⟨rfl,bel_then (Qaa _ _) y⟩
     ·have z3':x.2.2.2.toList.isEmpty=false:=by
       rw[ByteArray.toList_eq]
       cases h:x.2.2.2.data.toList with
       |nil=>exact absurd h N
       |cons a q=>rfl
      rw[if_neg (fun h=>N h.2.2)];clear N;go_enter Tryz.func167,Tryz.ntmps167;go_wp2_with (go_at_call 133;refine(M.out _ (Qaa _ _)).mono ?_;rintro e K ⟨rfl,y⟩;obtain⟨F,E⟩:=QaQ y);go_ret;exact⟨rfl,bel_then (Qaa _ _) y⟩
    ·rw[if_neg (fun h=>V h.2.1)];have z2':(x.2.2.1==0)=false:=by simp[V]
     go_enter Tryz.func167,Tryz.ntmps167;go_wp2_with (go_at_call 133;refine(M.out _ (Qaa _ _)).mono ?_;rintro e K ⟨rfl,y⟩;obtain⟨F,E⟩:=QaQ y);go_ret;exact⟨rfl,bel_then (Qaa _ _) y⟩
   ·rw[if_neg (fun h=>Z h.1)];have z1':(x.2.1==0)=false:=by simp[Z]
    go_enter Tryz.func167,Tryz.ntmps167;go_wp2_with (go_at_call 133;refine(M.out _ (Qaa _ _)).mono ?_;rintro e K ⟨rfl,y⟩;obtain⟨F,E⟩:=QaQ y);go_ret;exact⟨rfl,bel_then (Qaa _ _) y⟩
def Qcp (w:World) (b o:Nat) (ss:List ByteArray):Prop:=∀(j:Nat) (h:j<ss.length),w.cell? ⟨b,o+j,none⟩=some (.string ss[j])
theorem Qcp.below {w w':World} {B b o:Nat} {y:List ByteArray} (h:Qcp w b o y) (E:Below B w w') (D:b<B):Qcp w' b o y:=fun j hj=>(E.cell (p:=⟨b,o+j,none⟩) D).trans (h j hj)
def inS (ss:List ByteArray) (x:List UInt8):Bool:=ss.any fun s=>s.data.toList==x
theorem indexS_any (b o n c:Nat) (y:List ByteArray) (x:ByteArray) (w:World) (M:y.length=n) (O:n<=100) (N:Qcp w b o y):
 Calls Tryz.prog 71 #[.slice (some ⟨b,o,none⟩) n c,.string x] w fun e w'=>(∃i:Int,e=.returned (.int .i64 i)/\(0<=i↔inS y x.data.toList=true)/\-1<=i)/\w'=w:=by
 have J:=Hk M;clear M;go_enter Tryz.func71,Tryz.ntmps71;go_wp2
 go_loop [8] (fun i=>∃k:Nat,k<=n/\i=.int .i64 k/\(∀j (h:j<y.length),j<k->(y[j].data.toList==x.data.toList)=false)) (fun i=>n-(intOf i).toNat)
 case atStart=>exact⟨0,Nat.zero_le _,rfl,fun j _ h=>absurd h (by omega)⟩
 case round=>
  obtain⟨k,U,rfl,E⟩:=hrel;have K:=Hk E;clear E
  by_cases hlt:k<n
  ·have D:k<y.length:=by have:=J.out;omega
   have V:=N k D
   cases hp:(x.toList==y[k].toList)
   ·go_wp2
    go_round
    case rel=>
     refine⟨k+1,by omega,by go_num,fun j h H=>?_⟩;rcases Nat.lt_or_ge j k with F|F
     ·exact K.out j h F
     ·obtain rfl:j=k:=by omega
      rw[ByteArray.toList_eq,ByteArray.toList_eq] at hp;rw[beq_eq_false_iff_ne] at hp⊢;exact fun e=>hp e.symm
    case measure=>simp[intOf];omega
   ·go_wp2;go_ret;refine⟨⟨(k:Int),rfl,?_,by omega⟩,rfl⟩;refine⟨fun _=>?_,fun _=>by omega⟩;rw[ByteArray.toList_eq,ByteArray.toList_eq] at hp;rw[inS,List.any_eq_true];exact⟨y[k],List.getElem_mem D,by rw[beq_iff_eq] at hp⊢;exact hp.symm⟩
  ·go_wp2;go_ret;refine⟨⟨-1,rfl,?_,by omega⟩,rfl⟩;refine⟨fun h=>absurd h (by omega),fun h=>?_⟩;rw[inS,List.any_eq_true] at h;obtain⟨s,I,he⟩:=h;obtain⟨j,H,rfl⟩:=List.mem_iff_getElem.1 I;have:=K.out j H (by have:=J.out;omega);rw[this] at he
   cases he
theorem QcQ (b o n c:Nat) (h:List ByteArray) (x:ByteArray) (w:World) (F:h.length=n) (D:n<=100) (E:Qcp w b o h):
 Calls Tryz.prog 37 #[.slice (some ⟨b,o,none⟩) n c,.string x] w fun e w'=>e=.returned (.bool (inS h x.data.toList))/\w'=w:=by
 have HI:=Hk (indexS_any b o n c h x w F D E);clear F E;go_enter Tryz.func37,Tryz.ntmps37;go_wp2_with (go_at_call 71;refine HI.out.mono ?_;rintro e I ⟨⟨i,rfl,y,H⟩,rfl⟩)
 all_goals go_ret
 all_goals refine⟨ret_bool ?_,rfl⟩
 all_goals
  rw[Bool.eq_iff_iff,<-y]
  try simp
def Qc0:List ByteArray:=[⟨#[61]⟩,⟨#[60,62]⟩,⟨#[60]⟩,⟨#[60,61]⟩,⟨#[62]⟩,⟨#[62,61]⟩]
def QaX (cs:List Cl) (j:Jb):Int:=if inS Qc0 j.op.data.toList=false\/j.left.1.data.toList=[] then 1 else match Qaq cs j.left.1.data.toList with
 |none=>7
 |some i=>if Qb1 cs j.right=(cs[i]?.getD (⟨#[]⟩,0)).2 then 0 else 13
def QbN (n:Int):Value:=if n=0 then .nilIface else .iface 37 (.int .i64 n)
theorem Qql (w:World):Qcp (w.alloc (.cells #[.string ⟨#[61]⟩,.string ⟨#[60,62]⟩,.string ⟨#[60]⟩,.string ⟨#[60,61]⟩,.string ⟨#[62]⟩,.string ⟨#[62,61]⟩] 9)) w.heap.size 0 Qc0:=by
 intro j y
 match j,y with
 |0,_=>simp[Qc0]
 |1,_=>simp[Qc0]
 |2,_=>simp[Qc0]
 |3,_=>simp[Qc0]
 |4,_=>simp[Qc0]
 |5,_=>simp[Qc0]
 |j+6,h=>exact absurd h (by simp[Qc0])
theorem Qpw (x:ByteArray) (W:World) (H:Nat) (h:W.heap.size=H):
 Calls Tryz.prog 37 #[.slice (some ⟨H,0,none⟩) 6 6,.string x] (W.alloc (.cells #[.string ⟨#[61]⟩,.string ⟨#[60,62]⟩,.string ⟨#[60]⟩,.string ⟨#[60,61]⟩,.string ⟨#[62]⟩,.string ⟨#[62,61]⟩] 9)) fun e w'=>e=.returned (.bool (inS Qc0 x.data.toList))/\w'=W.alloc (.cells #[.string ⟨#[61]⟩,.string ⟨#[60,62]⟩,.string ⟨#[60]⟩,.string ⟨#[60,61]⟩,.string ⟨#[62]⟩,.string ⟨#[62,61]⟩] 9):=by
 subst h;exact QcQ W.heap.size 0 6 6 Qc0 x _ rfl (by decide) (Qql W)
theorem QhH (b o n c:Nat) (cs:List Cl) (j:Jb) (w:World) (M:cs.length=n) (ah:n<=100) (hb:b<w.heap.size) (N:Qau w b o cs) (hx:j.right.2.2.2.size<=maxLen):
 Calls Tryz.prog 125 #[.agg j.cells,.slice (some ⟨b,o,none⟩) n c] w fun e w'=>e=.returned (QbN (QaX cs j))/\Below w.heap.size w w':=by
 have HK:=Hk (fun W (Z:Below w.heap.size w W)=>QfA b o n c cs j.right W M ah (by have:=Z.size;omega) (N.below Z hb) hx);have I:=Hk (fun W (Z:Below w.heap.size w W)=>QaH b o n c cs j.left.1 W M ah (by have:=Z.size;omega) (N.below Z hb));have H:=Hk (Qpw j.op);unfold Jb.cells
 cases g:inS Qc0 j.op.data.toList
 ·have E:QaX cs j=1:=by unfold QaX;rw[if_pos (Or.inl g)]
  rw[g] at H;rw[E];clear E g M N;go_enter Tryz.func125,Tryz.ntmps125;go_wp2_with (go_at_call 37;refine(H.out _ _ (by simp)).mono ?_;rintro e w1 ⟨rfl,rfl⟩);go_ret;exact⟨rfl,bel_box (Qaa _ _) _⟩
 ·rw[g] at H
  by_cases h0:j.left.1.data.toList=[]
  ·have he:j.left.1.toList.isEmpty=true:=by rw[ByteArray.toList_eq,h0];rfl
   have E:QaX cs j=1:=by unfold QaX;rw[if_pos (Or.inr h0)]
   rw[E];clear E g M N h0;go_enter Tryz.func125,Tryz.ntmps125;go_wp2_with (go_at_call 37;refine(H.out _ _ (by simp)).mono ?_;rintro e w1 ⟨rfl,rfl⟩);go_ret;exact⟨rfl,bel_box (Qaa _ _) _⟩
  ·have he:j.left.1.toList.isEmpty=false:=by
    rw[ByteArray.toList_eq]
    cases h:j.left.1.data.toList with
    |nil=>exact absurd h h0
    |cons a q=>rfl
   cases gp:Qaq cs j.left.1.data.toList with
   |none=>
    have E:QaX cs j=7:=by unfold QaX;rw[if_neg (by simp[g,h0]),gp]
    rw[show QaB cs j.left.1.data.toList= -1 by rw[QaB,gp]] at I;rw[E];clear E g M N h0 gp;go_enter Tryz.func125,Tryz.ntmps125;go_wp2_with (first|(go_at_call 37;refine(H.out _ _ (by simp)).mono ?_;rintro e w1 ⟨rfl,rfl⟩)|(go_at_call 133;refine(I.out _ (bel_box (Qaa _ _) _)).mono ?_;rintro e w2 ⟨rfl,y⟩));go_ret;exact⟨rfl,bel_then (bel_box (Qaa _ _) _) y⟩
   |some i=>
    have ai:=Qap gp;rw[show QaB cs j.left.1.data.toList=(i:Int) by rw[QaB,gp]] at I;have aq:(i:Int)<(n:Int):=by omega
    have E:QaX cs j=if Qb1 cs j.right=cs[i].2 then 0 else 13:=by
     unfold QaX;rw[if_neg (by simp[g,h0]),gp];simp only[List.getElem?_eq_getElem ai,Option.getD_some]
    have hd:=(N i ai).2;rw[E];clear E g M h0 gp;generalize cs[i]=ci at*;obtain⟨kd,ag⟩:∃k,Qb1 cs j.right=k:=⟨_,rfl⟩;rw[ag] at HK⊢;clear ag
    by_cases F:kd=ci.2
    ·rw[if_pos F];have hkc':(kd != ci.2)=false:=by simp[F]
     clear F;go_enter Tryz.func125,Tryz.ntmps125;go_wp2_with (first|(go_at_call 37;refine(H.out _ _ (by simp)).mono ?_;rintro e w1 ⟨rfl,rfl⟩)|(go_at_call 133;refine(I.out _ (bel_box (Qaa _ _) _)).mono ?_;rintro e w2 ⟨rfl,y⟩));have D:=bel_then (bel_box (Qaa _ _) _) y;have aa:=cell_regrown ((y.cell (p:=⟨w.heap.size,10,none⟩) (by simp;omega)).trans (show _=some (Value.string j.right.1) by simp));have U:=cell_regrown ((y.cell (p:=⟨w.heap.size,11,none⟩) (by simp;omega)).trans (show _=some (Value.int .i64 j.right.2.1) by simp));have ac:=cell_regrown ((y.cell (p:=⟨w.heap.size,12,none⟩) (by simp;omega)).trans (show _=some (Value.int .i64 j.right.2.2.1) by simp));have V:=cell_regrown ((y.cell (p:=⟨w.heap.size,13,none⟩) (by simp;omega)).trans (show _=some (Value.string j.right.2.2.2) by simp));have ed:=cell_regrown (cK D hb hd);have K:∀d os,_:=fun d os=>Calls.regrown_of (HK.out (Sort.grow (redrawn w2 d) os) (bel_then D (below_regrown _ _ _)))
     have HB:=Hk D;clear H I HK D y;refine wp_region_quiet_below (by kernel_rfl) (by kernel_rfl) ?_
     repeat(any_goals(first|go_big_quiet_step (exact K _ _)|quiet_step (exact K _ _)))
     refine wpQuiet_nil ?_;intro _ O;obtain⟨⟨dq,am⟩,J⟩:=O;subst J;clear aa U ac V ed K;go_wp2;go_ret;exact⟨rfl,bel_then HB.out (below_regrown _ _ _)⟩
    ·rw[if_neg F];have hkc':(kd != ci.2)=true:=by simp[F]
     clear F;go_enter Tryz.func125,Tryz.ntmps125;go_wp2_with (first|(go_at_call 37;refine(H.out _ _ (by simp)).mono ?_;rintro e w1 ⟨rfl,rfl⟩)|(go_at_call 133;refine(I.out _ (bel_box (Qaa _ _) _)).mono ?_;rintro e w2 ⟨rfl,y⟩));have D:=bel_then (bel_box (Qaa _ _) _) y;have aa:=cell_regrown ((y.cell (p:=⟨w.heap.size,10,none⟩) (by simp;omega)).trans (show _=some (Value.string j.right.1) by simp));have U:=cell_regrown ((y.cell (p:=⟨w.heap.size,11,none⟩) (by simp;omega)).trans (show _=some (Value.int .i64 j.right.2.1) by simp));have ac:=cell_regrown ((y.cell (p:=⟨w.heap.size,12,none⟩) (by simp;omega)).trans (show _=some (Value.int .i64 j.right.2.2.1) by simp));have V:=cell_regrown ((y.cell (p:=⟨w.heap.size,13,none⟩) (by simp;omega)).trans (show _=some (Value.string j.right.2.2.2) by simp));have ed:=cell_regrown (cK D hb hd);have K:∀d os,_:=fun d os=>Calls.regrown_of (HK.out (Sort.grow (redrawn w2 d) os) (bel_then D (below_regrown _ _ _)))
     have HB:=Hk D;clear H I HK D y;refine wp_region_quiet_below (by kernel_rfl) (by kernel_rfl) ?_
     repeat(any_goals(first|go_big_quiet_step (exact K _ _)|quiet_step (exact K _ _)))
     refine wpQuiet_nil ?_;intro _ O;obtain⟨⟨dq,am⟩,J⟩:=O;subst J;clear aa U ac V ed K;go_wp2;go_ret;exact⟨rfl,bel_then HB.out (below_regrown _ _ _)⟩
end Go.Proofs.YtjlgejennghhlaaGreatDoor
