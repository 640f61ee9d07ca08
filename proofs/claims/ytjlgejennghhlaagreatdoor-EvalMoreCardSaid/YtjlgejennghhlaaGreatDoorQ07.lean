import Derived.Test.YtjlgejennghhlaaGreatDoorQ01
import Derived.Test.YtjlgejennghhlaaGreatDoorQ06
set_option linter.unusedSimpArgs false
set_option linter.unusedVariables false
set_option linter.unusedSectionVars false
set_option maxRecDepth 1000000
set_option maxHeartbeats 16000000
namespace Go.Proofs.YtjlgejennghhlaaGreatDoor
open Go.RowKit
theorem QaS {n:Int} (h:n≠0):QbK n=.iface 37 (.int .i64 n):=by unfold QbK;rw[if_neg h]
theorem QeH:QbK 0=.nilIface:=rfl
theorem QnG (Z V:Option Addr) (y O m oc:Nat) (j:Jb) (h H:Nat) (w:World) (M:j.outs=.slice V m oc) (U:Qa1 j.code=((h:Int),(H:Int))) (D:h=0\/y≠h\/m≠H):
 Calls Tryz.prog 59 #[.agg j.cells,.slice Z y O] w fun e w'=>e=.returned (.tuple #[.slice none 0 0,QbK 1])/\Below w.heap.size w w':=by
 have F:=fun W=>Qfw j.code W
 rw[U] at F;simp only at F;have J:=Hk F;unfold Jb.cells;rw[M];clear F U M
 by_cases I:h=0
 ·subst I;clear D;go_enter Tryz.func59,Tryz.ntmps59;go_wp2_with (go_at_call 95;refine(J.out _).mono ?_;rintro e K ⟨rfl,rfl⟩)
  go_ret2
  exact⟨rfl,Qaa _ _⟩
 ·have h0':((h:Int)==0)=false:=by simp;omega
  by_cases N:y=h
  ·have h1':((y:Int) != (h:Int))=false:=by simp;omega
   have h2':((m:Int) != (H:Int))=true:=by simp;omega
   clear D I N;go_enter Tryz.func59,Tryz.ntmps59;go_wp2_with (go_at_call 95;refine(J.out _).mono ?_;rintro e K ⟨rfl,rfl⟩)
   go_ret2
   exact⟨rfl,Qaa _ _⟩
  ·have h1':((y:Int) != (h:Int))=true:=by simp;omega
   clear D I N;go_enter Tryz.func59,Tryz.ntmps59;go_wp2_with (go_at_call 95;refine(J.out _).mono ?_;rintro e K ⟨rfl,rfl⟩)
   go_ret2
   exact⟨rfl,Qaa _ _⟩
theorem Qdm (J O:Option Addr) (H V:Nat) (j:Jb) (h F:Nat) (n:Int) (w:World) (I:j.outs=.slice O F V) (M:Qa1 j.code=((h:Int),(F:Int))) (U:h≠0) (K:n≠0)
 (y:∀W,Below w.heap.size w W->Calls Tryz.prog 96 #[.agg j.cells,.slice J h H] W fun e w'=>e=.returned (QbK n)/\Below W.heap.size W w'):
 Calls Tryz.prog 59 #[.agg j.cells,.slice J h H] w fun e w'=>e=.returned (.tuple #[.slice none 0 0,QbK n])/\Below w.heap.size w w':=by
 have D:=fun W=>Qfw j.code W
 rw[M] at D;simp only at D;have Z:=Hk D;rw[QaS K] at y⊢;unfold Jb.cells at y⊢;rw[I] at y⊢;have HW:=Hk y;have h0':((h:Int)==0)=false:=by simp;omega
 have h1':((h:Int) != (h:Int))=false:=by simp
 have h2':((F:Int) != (F:Int))=false:=by simp
 clear D M I y U K;go_enter Tryz.func59,Tryz.ntmps59;go_wp2_with (first|(go_at_call 95;refine(Z.out _).mono ?_;rintro e w1 ⟨rfl,rfl⟩)|(go_at_call 96;refine(HW.out _ (Qaa _ _)).mono ?_;rintro e w2 ⟨rfl,N⟩))
 go_ret2
 exact⟨rfl,bel_then (Qaa _ _) N⟩
theorem Tryz.infoCols:(Tryz.prog.info? 51).map (fun i=>(i.zero,i.size,i.bytes))=some (some (.slice none 0 0),1,24):=by kernel_rfl
def Qbj (w:World) (B:Nat) (us:List Value) (cs:List Cl):Prop:=∀u∈us,w.ownsRow B 64 2 u cs.length (Qak cs)
theorem cols_ok (va oa:Option Addr) (af oc:Nat) (j:Jb) (K y:Nat) (cs:List Cl) (w:World) (hj:j.outs=.slice oa y oc) (hs:Qa1 j.code=((K:Int),(y:Int))) (h0:K≠0) (a4:y<=2)
 (hW:∀W,Below w.heap.size w W->Calls Tryz.prog 96 #[.agg j.cells,.slice va K af] W fun e w'=>e=.returned .nilIface/\Below W.heap.size W w')
 (hC:∀W,Below w.heap.size w W->Calls Tryz.prog 97 #[.agg j.cells,.slice va K af] W fun e w'=>∃u,e=.returned u/\w'.ownsRow W.heap.size 64 2 u cs.length (Qak cs)/\Below W.heap.size W w'):
 Calls Tryz.prog 59 #[.agg j.cells,.slice va K af] w fun e w'=>∃v us,e=.returned (.tuple #[v,.nilIface])/\w'.ownsRow w.heap.size 51 1 v y us/\Qbj w' w.heap.size us cs/\Below w.heap.size w w':=by
 obtain⟨i0,hi,ax,aB,aE⟩:=info_parts Tryz.infoCols;have hS:=fun W=>Qfw j.code W
 rw[hs] at hS;simp only at hS;have HS:=Hk hS;unfold Jb.cells at hW hC⊢;rw[hj] at hW hC⊢;have HW:=Hk hW;have HC:=Hk hC;have h0':((K:Int)==0)=false:=by simp;omega
 have h1':((K:Int) != (K:Int))=false:=by simp
 have h2':((y:Int) != (y:Int))=false:=by simp
 clear hS hs hj hW hC h0;go_enter Tryz.func59,Tryz.ntmps59;go_wp2_with (first|(go_at_call 95;refine(HS.out _).mono ?_;rintro e w1 ⟨rfl,rfl⟩)|(go_at_call 96;refine(HW.out _ (Qaa _ _)).mono ?_;rintro e U ⟨rfl,V⟩));have aj:QaC U w.heap.size ⟨j.at_,j.code,.slice oa y oc,j.ins,j.cols,j.op,j.left,j.right,j.retry⟩:=QaC.below (w:=w.alloc (.cells _ 50)) (fun k v hk=>by
  rw[World.cell?_alloc_at _ _ _ _ rfl];exact hk) V (by simp)
 have ae:=bel_then (Qaa _ _) V;have hz2':w.heap.size<U.heap.size:=by have:=V.size;simp at this;omega
 have HJ:=Hk aj;have HB:=Hk ae;clear HS HW aj ae V;go_loopw [9,39] (fun l i wr=>∃(k:Nat) (us:List Value),k<=y/\i=.int .i64 k/\wr.ownsRow U.heap.size 51 1 l k us/\Qbj wr w.heap.size us cs/\Below U.heap.size U wr) (fun _ i _=>y-(intOf i).toNat)
 case atStart=>exact⟨0,[],Nat.zero_le _,rfl,World.ownsRow_nil _ _ _ _,fun u J=>absurd J (by simp),Below.refl _ _⟩
 case round=>
  obtain⟨k,us,hk,rfl,H,I,M⟩:=hrel;obtain⟨la,lc,rfl⟩:=own_slice H;have a2:=M.size;have HO:=Hk (Ai H (Ai I M))
  by_cases hlt:k<y
  ·have h:=HJ.out.below M hz2';have j0:wr.cell? ⟨w.heap.size,0,none⟩=some (.int .i64 j.at_):=h 0 _ rfl;have j1:wr.cell? ⟨w.heap.size,1,none⟩=some (.int .i64 j.code):=h 1 _ rfl;have j2:wr.cell? ⟨w.heap.size,2,none⟩=some (.slice oa y oc):=h 2 _ rfl;have j3:wr.cell? ⟨w.heap.size,3,none⟩=some j.ins:=h 3 _ rfl;have j4:wr.cell? ⟨w.heap.size,4,none⟩=some j.cols:=h 4 _ rfl;have j5:wr.cell? ⟨w.heap.size,5,none⟩=some (.string j.op):=h 5 _ rfl;have j6:wr.cell? ⟨w.heap.size,6,none⟩=some (.string j.left.1):=h 6 _ rfl;have j7:wr.cell? ⟨w.heap.size,7,none⟩=some (.int .i64 j.left.2.1):=h 7 _ rfl;have j8:wr.cell? ⟨w.heap.size,8,none⟩=some (.int .i64 j.left.2.2.1):=h 8 _ rfl;have j9:wr.cell? ⟨w.heap.size,9,none⟩=some (.string j.left.2.2.2):=h 9 _ rfl;have ay:wr.cell? ⟨w.heap.size,10,none⟩=some (.string j.right.1):=h 10 _ rfl;have aM:wr.cell? ⟨w.heap.size,11,none⟩=some (.int .i64 j.right.2.1):=h 11 _ rfl;have aF:wr.cell? ⟨w.heap.size,12,none⟩=some (.int .i64 j.right.2.2.1):=h 12 _ rfl;have aK:wr.cell? ⟨w.heap.size,13,none⟩=some (.string j.right.2.2.2):=h 13 _ rfl;have aG:wr.cell? ⟨w.heap.size,14,none⟩=some (.int .i64 j.retry):=h 14 _ rfl;clear h H I M;go_wp2_with (first|(go_at_call 97;refine(HC.out _ (HB.out.trans (HO.out.2.2.mono HB.out.size))).mono ?_;rintro e w3 ⟨v1,rfl,ak,F⟩;obtain⟨O,N,rfl⟩:=own_slice ak)|(at_builtin;refine wpList_append_own _ rfl _ _ 123 rfl U.heap.size 51 i0 (.slice none 0 0) 1 24 Tryz.underlying123 hi ax aB aE rfl (by decide) _ _ _ rfl ((owns_below HO.out.1 F).alloc _) ⟨w3.heap.size,0,none⟩ 1 1 [.slice O cs.length N] rfl rfl (news1 _ _ _ _ rfl) (Qc2 _ _ _) ?c3 ?c4 ?c5 ?_))
   case c3=>unfold maxLen;omega
   case c4=>omega
   case c5=>have:=F.size;simp;omega
   intro v' w5 Z D _;have a3:=F.size;obtain⟨p1,p2,p3⟩:=HO.out;have q1:=(owns_below p1 F).alloc (.cells #[.slice O cs.length N] 51);have ab:Below U.heap.size U w5:=((bel_then p3 F).alloc (by omega) _).grown D (by simp;omega) (fun q hq=>(p1.lt q hq).1);have ac:=ak.alloc (.cells #[.slice O cs.length N] 51);have al:Qbj w5 w.heap.size (us++[.slice O cs.length N]) cs:=fun u J=>by
    rw[List.mem_append] at J;rcases J with J|J
    ·have h1:=(owns_below (p2 u J) F).alloc (.cells #[.slice O cs.length N] 51);exact h1.kept D (Qb2 (by decide) h1 q1)
    ·simp at J;subst J;exact own_mono (by omega) (ac.kept D (Qb2 (by decide) ac q1))
   have HF:=Hk (Ai Z (Ai al ab));clear Z D al ab ac q1 p1 p2 p3;clear j0 j1 j2 j3 j4 j5 j6 j7 j8 j9 ay aM aF aK aG;go_wp2;go_roundw
   case rel=>exact⟨k+1,_,by omega,by go_num,HF.out.1,HF.out.2.1,HF.out.2.2⟩
   case measure=>simp[intOf];omega
  ·have aD:k=y:=by omega
   subst aD;clear H I M;go_wp2
   go_ret2
   exact⟨_,us,rfl,own_mono HB.out.size HO.out.1,HO.out.2.1,HB.out.trans (HO.out.2.2.mono HB.out.size)⟩
theorem Qem (D M F U b o n c:Nat) (cs:List Cl) (j:Jb) (w:World) (h:j.code=1\/j.code=9) (ab:0<F) (ac:D<w.heap.size) (h0:w.cell? ⟨D,M,none⟩=some (.slice (some ⟨b,o,none⟩) n c)) (N:cs.length=n) (K:n<=100) (I:b<w.heap.size) (V:Qau w b o cs) (hx:j.right.2.2.2.size<=maxLen):
 Calls Tryz.prog 96 #[.agg j.cells,.slice (some ⟨D,M,none⟩) F U] w fun e w'=>e=.returned (QbK (QaV cs j))/\Below w.heap.size w w':=by
 have H:=fun W (J:Below w.heap.size w W)=>QhB b o n c cs j W N K (by have:=J.size;omega) (V.below J I) hx
 unfold Jb.cells at H⊢;generalize QaV cs j=r at*;have Z:=Hk H;have htk':(0:Int)<(F:Int):=by omega
 clear H N V;obtain⟨code,y⟩:∃k,j.code=k:=⟨_,rfl⟩;rw[y] at Z h⊢;clear y;rcases h with rfl|rfl
 all_goals
  go_enter Tryz.func96,Tryz.ntmps96;go_wp2_with (go_at_call 125;refine(Z.out _ (Qaa _ _)).mono ?_;rintro e w1 ⟨rfl,O⟩);go_ret;exact⟨rfl,bel_then (Qaa _ _) O⟩
theorem QbC (D N F V b o n c:Nat) (cs:List Cl) (j:Jb) (w:World) (h:j.code=1\/j.code=9\/j.code=2\/j.code=4\/j.code=5\/j.code=6) (ab:0<F) (ac:D<w.heap.size) (h0:w.cell? ⟨D,N,none⟩=some (.slice (some ⟨b,o,none⟩) n c)) (H:cs.length=n) (M:n<=100) (I:b<w.heap.size) (Z:Qau w b o cs):
 Calls Tryz.prog 97 #[.agg j.cells,.slice (some ⟨D,N,none⟩) F V] w fun e w'=>∃u,e=.returned u/\w'.ownsRow w.heap.size 64 2 u cs.length (Qak cs)/\Below w.heap.size w w':=by
 have J:=fun W (K:Below w.heap.size w W)=>QdF b o n c cs W H M (by have:=K.size;omega) (Z.below K I)
 rw[H];unfold Jb.cells;have HT:=Hk J;have htk':(0:Int)<(F:Int):=by omega
 clear J H Z;obtain⟨code,y⟩:∃k,j.code=k:=⟨_,rfl⟩;rw[y] at h⊢;clear y;rcases h with rfl|rfl|rfl|rfl|rfl|rfl
 all_goals
  go_enter Tryz.func97,Tryz.ntmps97;go_wp2_with (go_at_call 58;refine(HT.out _ (Qaa _ _)).mono ?_;rintro e w1 ⟨v1,rfl,O,U⟩);go_ret;exact⟨_,rfl,own_mono (by simp) O,bel_then (Qaa _ _) U⟩
end Go.Proofs.YtjlgejennghhlaaGreatDoor
