import Derived.Test.YtjlgejennghhlaaGreatDoorR01
import Derived.Test.YtjlgejennghhlaaGreatDoorR07
set_option linter.unusedSimpArgs false
set_option linter.unusedVariables false
set_option linter.unusedSectionVars false
set_option maxRecDepth 1000000
set_option maxHeartbeats 16000000
namespace Go.Proofs.YtjlgejennghhlaaGreatDoor
open Go.RowKit
theorem QaT {n:Int} (h:n≠0):QbN n=.iface 37 (.int .i64 n):=by unfold QbN;rw[if_neg h]
theorem QeK:QbN 0=.nilIface:=rfl
theorem QnP (V U:Option Addr) (y N m Z:Nat) (j:Jb) (h F:Nat) (w:World) (K:j.outs=.slice U m Z) (O:Qa3 j.code=((h:Int),(F:Int))) (D:h=0\/y≠h\/m≠F):
 Calls Tryz.prog 59 #[.agg j.cells,.slice V y N] w fun e w'=>e=.returned (.tuple #[.slice none 0 0,QbN 1])/\Below w.heap.size w w':=by
 have E:=fun W=>Qfz j.code W
 rw[O] at E;simp only at E;have I:=Hk E;unfold Jb.cells;rw[K];clear E O K
 by_cases H:h=0
 ·subst H;clear D;go_enter Tryz.func59,Tryz.ntmps59;go_wp2_with (go_at_call 95;refine(I.out _).mono ?_;rintro e J ⟨rfl,rfl⟩)
  go_ret2
  exact⟨rfl,Qaa _ _⟩
 ·have h0':((h:Int)==0)=false:=by simp;omega
  by_cases M:y=h
  ·have h1':((y:Int) != (h:Int))=false:=by simp;omega
   have h2':((m:Int) != (F:Int))=true:=by simp;omega
   clear D H M;go_enter Tryz.func59,Tryz.ntmps59;go_wp2_with (go_at_call 95;refine(I.out _).mono ?_;rintro e J ⟨rfl,rfl⟩)
   go_ret2
   exact⟨rfl,Qaa _ _⟩
  ·have h1':((y:Int) != (h:Int))=true:=by simp;omega
   clear D H M;go_enter Tryz.func59,Tryz.ntmps59;go_wp2_with (go_at_call 95;refine(I.out _).mono ?_;rintro e J ⟨rfl,rfl⟩)
   go_ret2
   exact⟨rfl,Qaa _ _⟩
theorem Qdq (I N:Option Addr) (F U:Nat) (j:Jb) (h E:Nat) (n:Int) (w:World) (H:j.outs=.slice N E U) (K:Qa3 j.code=((h:Int),(E:Int))) (O:h≠0) (J:n≠0)
 (y:∀W,Below w.heap.size w W->Calls Tryz.prog 96 #[.agg j.cells,.slice I h F] W fun e w'=>e=.returned (QbN n)/\Below W.heap.size W w'):
 Calls Tryz.prog 59 #[.agg j.cells,.slice I h F] w fun e w'=>e=.returned (.tuple #[.slice none 0 0,QbN n])/\Below w.heap.size w w':=by
 have D:=fun W=>Qfz j.code W
 rw[K] at D;simp only at D;have V:=Hk D;rw[QaT J] at y⊢;unfold Jb.cells at y⊢;rw[H] at y⊢;have Z:=Hk y;have h0':((h:Int)==0)=false:=by simp;omega
 have h1':((h:Int) != (h:Int))=false:=by simp
 have h2':((E:Int) != (E:Int))=false:=by simp
 clear D K H y O J;go_enter Tryz.func59,Tryz.ntmps59;go_wp2_with (first|(go_at_call 95;refine(V.out _).mono ?_;rintro e w1 ⟨rfl,rfl⟩)|(go_at_call 96;refine(Z.out _ (Qaa _ _)).mono ?_;rintro e w2 ⟨rfl,M⟩))
 go_ret2
 exact⟨rfl,bel_then (Qaa _ _) M⟩
theorem Tryz.infoCols:(Tryz.prog.info? 51).map (fun i=>(i.zero,i.size,i.bytes))=some (some (.slice none 0 0),1,24):=by kernel_rfl
def Qbk (w:World) (B:Nat) (us:List Value) (cs:List Cl):Prop:=∀u∈us,w.ownsRow B 64 2 u cs.length (Qal cs)
theorem cols_ok (va oa:Option Addr) (ae oc:Nat) (j:Jb) (J y:Nat) (cs:List Cl) (w:World) (hj:j.outs=.slice oa y oc) (hs:Qa3 j.code=((J:Int),(y:Int))) (h0:J≠0) (a3:y<=2)
 (hW:∀W,Below w.heap.size w W->Calls Tryz.prog 96 #[.agg j.cells,.slice va J ae] W fun e w'=>e=.returned .nilIface/\Below W.heap.size W w')
 (hC:∀W,Below w.heap.size w W->Calls Tryz.prog 97 #[.agg j.cells,.slice va J ae] W fun e w'=>∃u,e=.returned u/\w'.ownsRow W.heap.size 64 2 u cs.length (Qal cs)/\Below W.heap.size W w'):
 Calls Tryz.prog 59 #[.agg j.cells,.slice va J ae] w fun e w'=>∃v us,e=.returned (.tuple #[v,.nilIface])/\w'.ownsRow w.heap.size 51 1 v y us/\Qbk w' w.heap.size us cs/\Below w.heap.size w w':=by
 obtain⟨i0,hi,aw,aA,aD⟩:=info_parts Tryz.infoCols;have hS:=fun W=>Qfz j.code W
 rw[hs] at hS;simp only at hS;have HS:=Hk hS;unfold Jb.cells at hW hC⊢;rw[hj] at hW hC⊢;have HW:=Hk hW;have HC:=Hk hC;have h0':((J:Int)==0)=false:=by simp;omega
 have h1':((J:Int) != (J:Int))=false:=by simp
 have h2':((y:Int) != (y:Int))=false:=by simp
 clear hS hs hj hW hC h0;go_enter Tryz.func59,Tryz.ntmps59;go_wp2_with (first|(go_at_call 95;refine(HS.out _).mono ?_;rintro e w1 ⟨rfl,rfl⟩)|(go_at_call 96;refine(HW.out _ (Qaa _ _)).mono ?_;rintro e O ⟨rfl,U⟩));have ai:QaC O w.heap.size ⟨j.at_,j.code,.slice oa y oc,j.ins,j.cols,j.op,j.left,j.right,j.retry⟩:=QaC.below (w:=w.alloc (.cells _ 50)) (fun k v hk=>by
  rw[World.cell?_alloc_at _ _ _ _ rfl];exact hk) U (by simp)
 have ad:=bel_then (Qaa _ _) U;have hz2':w.heap.size<O.heap.size:=by have:=U.size;simp at this;omega
 have HJ:=Hk ai;have HB:=Hk ad;clear HS HW ai ad U;go_loopw [9,39] (fun l i wr=>∃(k:Nat) (us:List Value),k<=y/\i=.int .i64 k/\wr.ownsRow O.heap.size 51 1 l k us/\Qbk wr w.heap.size us cs/\Below O.heap.size O wr) (fun _ i _=>y-(intOf i).toNat)
 case atStart=>exact⟨0,[],Nat.zero_le _,rfl,World.ownsRow_nil _ _ _ _,fun u I=>absurd I (by simp),Below.refl _ _⟩
 case round=>
  obtain⟨k,us,hk,rfl,F,H,K⟩:=hrel;obtain⟨la,lc,rfl⟩:=own_slice F;have a1:=K.size;have Z:=Hk (Ai F (Ai H K))
  by_cases hlt:k<y
  ·have h:=HJ.out.below K hz2';have j0:wr.cell? ⟨w.heap.size,0,none⟩=some (.int .i64 j.at_):=h 0 _ rfl;have j1:wr.cell? ⟨w.heap.size,1,none⟩=some (.int .i64 j.code):=h 1 _ rfl;have j2:wr.cell? ⟨w.heap.size,2,none⟩=some (.slice oa y oc):=h 2 _ rfl;have j3:wr.cell? ⟨w.heap.size,3,none⟩=some j.ins:=h 3 _ rfl;have j4:wr.cell? ⟨w.heap.size,4,none⟩=some j.cols:=h 4 _ rfl;have j5:wr.cell? ⟨w.heap.size,5,none⟩=some (.string j.op):=h 5 _ rfl;have j6:wr.cell? ⟨w.heap.size,6,none⟩=some (.string j.left.1):=h 6 _ rfl;have j7:wr.cell? ⟨w.heap.size,7,none⟩=some (.int .i64 j.left.2.1):=h 7 _ rfl;have j8:wr.cell? ⟨w.heap.size,8,none⟩=some (.int .i64 j.left.2.2.1):=h 8 _ rfl;have j9:wr.cell? ⟨w.heap.size,9,none⟩=some (.string j.left.2.2.2):=h 9 _ rfl;have ax:wr.cell? ⟨w.heap.size,10,none⟩=some (.string j.right.1):=h 10 _ rfl;have aL:wr.cell? ⟨w.heap.size,11,none⟩=some (.int .i64 j.right.2.1):=h 11 _ rfl;have aE:wr.cell? ⟨w.heap.size,12,none⟩=some (.int .i64 j.right.2.2.1):=h 12 _ rfl;have aJ:wr.cell? ⟨w.heap.size,13,none⟩=some (.string j.right.2.2.2):=h 13 _ rfl;have aF:wr.cell? ⟨w.heap.size,14,none⟩=some (.int .i64 j.retry):=h 14 _ rfl;clear h F H K;go_wp2_with (first|(go_at_call 97;refine(HC.out _ (HB.out.trans (Z.out.2.2.mono HB.out.size))).mono ?_;rintro e w3 ⟨v1,rfl,aj,E⟩;obtain⟨N,M,rfl⟩:=own_slice aj)|(at_builtin;refine wpList_append_own _ rfl _ _ 123 rfl O.heap.size 51 i0 (.slice none 0 0) 1 24 Tryz.underlying123 hi aw aA aD rfl (by decide) _ _ _ rfl ((owns_below Z.out.1 E).alloc _) ⟨w3.heap.size,0,none⟩ 1 1 [.slice N cs.length M] rfl rfl (news1 _ _ _ _ rfl) (Qc4 _ _ _) ?c3 ?c4 ?c5 ?_))
   case c3=>unfold maxLen;omega
   case c4=>omega
   case c5=>have:=E.size;simp;omega
   intro v' w5 V D _;have a2:=E.size;obtain⟨p1,p2,p3⟩:=Z.out;have q1:=(owns_below p1 E).alloc (.cells #[.slice N cs.length M] 51);have aa:Below O.heap.size O w5:=((bel_then p3 E).alloc (by omega) _).grown D (by simp;omega) (fun q hq=>(p1.lt q hq).1);have ab:=aj.alloc (.cells #[.slice N cs.length M] 51);have ak:Qbk w5 w.heap.size (us++[.slice N cs.length M]) cs:=fun u I=>by
    rw[List.mem_append] at I;rcases I with I|I
    ·have h1:=(owns_below (p2 u I) E).alloc (.cells #[.slice N cs.length M] 51);exact h1.kept D (Qb4 (by decide) h1 q1)
    ·simp at I;subst I;exact own_mono (by omega) (ab.kept D (Qb4 (by decide) ab q1))
   have HF:=Hk (Ai V (Ai ak aa));clear V D ak aa ab q1 p1 p2 p3;clear j0 j1 j2 j3 j4 j5 j6 j7 j8 j9 ax aL aE aJ aF;go_wp2;go_roundw
   case rel=>exact⟨k+1,_,by omega,by go_num,HF.out.1,HF.out.2.1,HF.out.2.2⟩
   case measure=>simp[intOf];omega
  ·have aC:k=y:=by omega
   subst aC;clear F H K;go_wp2
   go_ret2
   exact⟨_,us,rfl,own_mono HB.out.size Z.out.1,Z.out.2.1,HB.out.trans (Z.out.2.2.mono HB.out.size)⟩
end Go.Proofs.YtjlgejennghhlaaGreatDoor
