import Derived.Test.YtjlgejennghhlaaGreatDoorR01
import Derived.Test.YtjlgejennghhlaaGreatDoorR07
set_option linter.unusedSimpArgs false
set_option linter.unusedVariables false
set_option linter.unusedSectionVars false
set_option maxRecDepth 1000000
set_option maxHeartbeats 16000000
namespace Go.Proofs.YtjlgejennghhlaaGreatDoor
open Go.RowKit
def Qmb (op:List UInt8) (a b:Int):Int:=if op=[43] then a+b else if op=[45] then a-b else a*b
def Qaz (n:Int):Prop:=-1000000000<=n/\n<=1000000000
instance (n:Int):Decidable (Qaz n):=by unfold Qaz;exact inferInstance
theorem Qmc {a b:Int} (y:Qaz a) (D:Qaz b): -1000000000000000000<=a*b/\a*b<=1000000000000000000:=by
 obtain⟨H,F⟩:=y;obtain⟨E,I⟩:=D;have h:(a*b).natAbs<=1000000000*1000000000:=by
  rw[Int.natAbs_mul];exact Nat.mul_le_mul (by omega) (by omega)
 omega
theorem QkN (op:ByteArray) (a b:Int) (w:World) (h:Qaz a) (y:Qaz b):
 Calls Tryz.prog 172 #[.string op,.int .i64 a,.int .i64 b] w fun e w'=>e=.returned (.int .i64 (Qmb op.data.toList a b))/\w'=w:=by
 obtain⟨J,E⟩:=Qmc h y;obtain⟨H,F⟩:=h;obtain⟨D,I⟩:=y;go_enter Tryz.func172,Tryz.ntmps172;go_wp2
 all_goals go_ret
 all_goals refine⟨QbB ?_,rfl⟩
 all_goals simp_all [Qmb,ByteArray.toList_eq]
theorem QfF (n:Int) (w:World) (h:Qaz n):
 Calls Tryz.prog 171 #[.int .i64 n] w fun e w'=>e=.returned (.tuple #[aggV (1,n,⟨#[]⟩),.nilIface])/\Below w.heap.size w w':=by
 obtain⟨y,D⟩:=h;go_enter Tryz.func171,Tryz.ntmps171;go_wp2;refine bodyPost_ret (v:=.tuple #[aggV (1,n,⟨#[]⟩),.nilIface]) (by simp[results,Tryz.results171,go_sem]) rfl ⟨rfl,Qaa _ _⟩
theorem Qet (n:Int) (w:World) (h:¬Qaz n):
 Calls Tryz.prog 171 #[.int .i64 n] w fun e w'=>e=.returned (.tuple #[aggV (0,0,⟨#[]⟩),QbN 2])/\Below w.heap.size w w':=by
 unfold Qaz at h
 by_cases h1:n< -1000000000
 ·clear h;go_enter Tryz.func171,Tryz.ntmps171;go_wp2;refine bodyPost_ret (v:=.tuple #[aggV (0,0,⟨#[]⟩),.iface 37 (.int .i64 2)]) (by simp[results,Tryz.results171,go_sem]) rfl ⟨rfl,Qaa _ _⟩
 ·have y:1000000000<n:=by omega
  clear h;go_enter Tryz.func171,Tryz.ntmps171;go_wp2;refine bodyPost_ret (v:=.tuple #[aggV (0,0,⟨#[]⟩),.iface 37 (.int .i64 2)]) (by simp[results,Tryz.results171,go_sem]) rfl ⟨rfl,Qaa _ _⟩
def Qbs:List ByteArray:=[⟨#[43]⟩,⟨#[45]⟩,⟨#[42]⟩]
theorem Qoa (w:World):Qcp (w.alloc (.cells #[.string ⟨#[43]⟩,.string ⟨#[45]⟩,.string ⟨#[42]⟩] 9)) w.heap.size 0 Qbs:=by
 intro j y
 match j,y with
 |0,_=>simp[Qbs]
 |1,_=>simp[Qbs]
 |2,_=>simp[Qbs]
 |j+3,h=>exact absurd h (by simp[Qbs])
theorem Qmd (x:ByteArray) (W:World) (H:Nat) (y:W.heap.size=H) (h:inS Qbs x.data.toList=true):
 Calls Tryz.prog 37 #[.slice (some ⟨H,0,none⟩) 3 3,.string x] (W.alloc (.cells #[.string ⟨#[43]⟩,.string ⟨#[45]⟩,.string ⟨#[42]⟩] 9)) fun e w'=>e=.returned (.bool true)/\w'=W.alloc (.cells #[.string ⟨#[43]⟩,.string ⟨#[45]⟩,.string ⟨#[42]⟩] 9):=by
 subst y;rw[<-h];exact QcQ W.heap.size 0 3 3 Qbs x _ rfl (by decide) (Qoa W)
def QbZ (cs:List Cl) (j:Jb) (nm:List UInt8):Int:=match Qaq cs nm with
 |none=>7
 |some i=>if(cs[i]?.getD (⟨#[]⟩,0)).2=1/\Qb1 cs j.left=1/\Qb1 cs j.right=1 then 0 else 13
theorem Qi3 (b o n c cb co cc:Nat) (cs:List Cl) (nm:ByteArray) (j:Jb) (w:World) (hj:j.cols=.slice (some ⟨cb,co,none⟩) 1 cc) (aW:cb<w.heap.size) (s0:w.cell? ⟨cb,co,none⟩=some (.string nm)) (aj:inS Qbs j.op.data.toList=true)
 (hn:cs.length=n) (ak:n<=100) (hb:b<w.heap.size) (hc:Qau w b o cs) (hx:j.left.2.2.2.size<=maxLen) (aI:j.right.2.2.2.size<=maxLen):
 Calls Tryz.prog 126 #[.agg j.cells,.slice (some ⟨b,o,none⟩) n c] w fun e w'=>e=.returned (QbN (QbZ cs j nm.data.toList))/\Below w.heap.size w w':=by
 have ac:=fun W (N:Below w.heap.size w W)=>QfA b o n c cs j.left W hn ak (by have:=N.size;omega) (hc.below N hb) hx
 have ab:=fun W (N:Below w.heap.size w W)=>QfA b o n c cs j.right W hn ak (by have:=N.size;omega) (hc.below N hb) aI
 have hP:=fun W (N:Below w.heap.size w W)=>QaH b o n c cs nm W hn ak (by have:=N.size;omega) (hc.below N hb)
 have HS:=Hk (fun W H hH=>Qmd j.op W H hH aj);have ad:QaC (w.alloc (.cells j.cells 50)) w.heap.size j:=fun k v hk=>by rw[World.cell?_alloc_at _ _ _ _ rfl];exact hk
 unfold Jb.cells at ad⊢;rw[hj] at ad⊢;have ax:=Hk ad;clear ad
 cases gp:Qaq cs nm.data.toList with
 |none=>
  have ht:QbZ cs j nm.data.toList=7:=by unfold QbZ;rw[gp]
  rw[show QaB cs nm.data.toList= -1 by rw[QaB,gp]] at hP;have HP:=Hk hP;rw[ht];clear ht hn hc gp hP ac ab aj ax;go_enter Tryz.func126,Tryz.ntmps126;go_wp2_with (first|(go_at_call 37;refine(HS.out _ _ (by simp)).mono ?_;rintro e w1 ⟨rfl,rfl⟩)|(go_at_call 133;refine(HP.out _ (bel_box (Qaa _ _) _)).mono ?_;rintro e V ⟨rfl,y⟩));go_ret;exact⟨rfl,bel_then (bel_box (Qaa _ _) _) y⟩
 |some i=>
  have ay:=Qap gp;rw[show QaB cs nm.data.toList=(i:Int) by rw[QaB,gp]] at hP;have aX:(i:Int)<(n:Int):=by omega
  have ht:QbZ cs j nm.data.toList=if cs[i].2=1/\Qb1 cs j.left=1/\Qb1 cs j.right=1 then 0 else 13:=by
   unfold QbZ;rw[gp];simp only[List.getElem?_eq_getElem ay,Option.getD_some]
  have hd:=(hc i ay).2;rw[ht];have HP:=Hk hP;clear ht hn gp hP aj;generalize cs[i]=ci at*;obtain⟨kl,ar⟩:∃k,Qb1 cs j.left=k:=⟨_,rfl⟩;obtain⟨kr,av⟩:∃k,Qb1 cs j.right=k:=⟨_,rfl⟩;rw[ar] at ac⊢;rw[av] at ab⊢;have al:=Hk ac;have au:=Hk ab;clear ar av ac ab;clear ax hc;obtain⟨kc,aw⟩:∃k,ci.2=k:=⟨_,rfl⟩;rw[aw] at hd⊢;clear aw
  by_cases g1:kc=1
  ·subst g1
   by_cases g2:kl=1
   ·subst g2
    by_cases g3:kr=1
    ·subst g3;rw[if_pos ⟨rfl,rfl,rfl⟩];go_enter Tryz.func126,Tryz.ntmps126;go_wp2_with (first|(go_at_call 37;refine(HS.out _ _ (by simp)).mono ?_;rintro e w1 ⟨rfl,rfl⟩)|(go_at_call 133;refine(HP.out _ (bel_box (Qaa _ _) _)).mono ?_;rintro e V ⟨rfl,y⟩;have D:=bel_then (bel_box (Qaa _ _) _) y;have I:w.heap.size<V.heap.size:=(by have:=y.size;simp at this;omega);have d2:=cK D hb hd;have q6:=(y.cell (p:=⟨w.heap.size,6,none⟩) (by simp;omega)).trans (show _=some (Value.string j.left.1) by simp);have q7:=(y.cell (p:=⟨w.heap.size,7,none⟩) (by simp;omega)).trans (show _=some (Value.int .i64 j.left.2.1) by simp);have q8:=(y.cell (p:=⟨w.heap.size,8,none⟩) (by simp;omega)).trans (show _=some (Value.int .i64 j.left.2.2.1) by simp);have q9:=(y.cell (p:=⟨w.heap.size,9,none⟩) (by simp;omega)).trans (show _=some (Value.string j.left.2.2.2) by simp);have Z:=(y.cell (p:=⟨w.heap.size,10,none⟩) (by simp;omega)).trans (show _=some (Value.string j.right.1) by simp);have U:=(y.cell (p:=⟨w.heap.size,11,none⟩) (by simp;omega)).trans (show _=some (Value.int .i64 j.right.2.1) by simp);have O:=(y.cell (p:=⟨w.heap.size,12,none⟩) (by simp;omega)).trans (show _=some (Value.int .i64 j.right.2.2.1) by simp);have M:=(y.cell (p:=⟨w.heap.size,13,none⟩) (by simp;omega)).trans (show _=some (Value.string j.right.2.2.2) by simp);have K:=Hk (Ai y D);clear y D)|(go_at_call 167;fail));refine(al.out _ K.out.2).mono ?_;rintro e w3 ⟨rfl,E⟩;have aK:=cK E I Z;have aL:=cK E I U;have aQ:=cK E I O;have aM:=cK E I M;have F:=bel_then K.out.2 E;have J:=Hk F;clear E F;go_wp2_with (go_at_call 167;refine(au.out _ J.out).mono ?_;rintro e w4 ⟨rfl,ap⟩);go_ret;exact⟨rfl,bel_then J.out ap⟩
    ·rw[if_neg (fun h=>g3 h.2.2)];have g3':(kr != 1)=true:=by simp[g3]
     go_enter Tryz.func126,Tryz.ntmps126;go_wp2_with (first|(go_at_call 37;refine(HS.out _ _ (by simp)).mono ?_;rintro e w1 ⟨rfl,rfl⟩)|(go_at_call 133;refine(HP.out _ (bel_box (Qaa _ _) _)).mono ?_;rintro e V ⟨rfl,y⟩;have D:=bel_then (bel_box (Qaa _ _) _) y;have I:w.heap.size<V.heap.size:=(by have:=y.size;simp at this;omega);have d2:=cK D hb hd;have q6:=(y.cell (p:=⟨w.heap.size,6,none⟩) (by simp;omega)).trans (show _=some (Value.string j.left.1) by simp);have q7:=(y.cell (p:=⟨w.heap.size,7,none⟩) (by simp;omega)).trans (show _=some (Value.int .i64 j.left.2.1) by simp);have q8:=(y.cell (p:=⟨w.heap.size,8,none⟩) (by simp;omega)).trans (show _=some (Value.int .i64 j.left.2.2.1) by simp);have q9:=(y.cell (p:=⟨w.heap.size,9,none⟩) (by simp;omega)).trans (show _=some (Value.string j.left.2.2.2) by simp);have Z:=(y.cell (p:=⟨w.heap.size,10,none⟩) (by simp;omega)).trans (show _=some (Value.string j.right.1) by simp);have U:=(y.cell (p:=⟨w.heap.size,11,none⟩) (by simp;omega)).trans (show _=some (Value.int .i64 j.right.2.1) by simp);have O:=(y.cell (p:=⟨w.heap.size,12,none⟩) (by simp;omega)).trans (show _=some (Value.int .i64 j.right.2.2.1) by simp);have M:=(y.cell (p:=⟨w.heap.size,13,none⟩) (by simp;omega)).trans (show _=some (Value.string j.right.2.2.2) by simp);have K:=Hk (Ai y D);clear y D)|(go_at_call 167;fail));refine(al.out _ K.out.2).mono ?_;rintro e w3 ⟨rfl,E⟩;have aK:=cK E I Z;have aL:=cK E I U;have aQ:=cK E I O;have aM:=cK E I M;have F:=bel_then K.out.2 E;have J:=Hk F;clear E F;go_wp2_with (go_at_call 167;refine(au.out _ J.out).mono ?_;rintro e w4 ⟨rfl,ap⟩);go_ret;exact⟨rfl,bel_then J.out ap⟩
   ·rw[if_neg (fun h=>g2 h.2.1)];have g2':(kl != 1)=true:=by simp[g2]
    go_enter Tryz.func126,Tryz.ntmps126;go_wp2_with (first|(go_at_call 37;refine(HS.out _ _ (by simp)).mono ?_;rintro e w1 ⟨rfl,rfl⟩)|(go_at_call 133;refine(HP.out _ (bel_box (Qaa _ _) _)).mono ?_;rintro e V ⟨rfl,y⟩;have D:=bel_then (bel_box (Qaa _ _) _) y;have I:w.heap.size<V.heap.size:=(by have:=y.size;simp at this;omega);have d2:=cK D hb hd;have q6:=(y.cell (p:=⟨w.heap.size,6,none⟩) (by simp;omega)).trans (show _=some (Value.string j.left.1) by simp);have q7:=(y.cell (p:=⟨w.heap.size,7,none⟩) (by simp;omega)).trans (show _=some (Value.int .i64 j.left.2.1) by simp);have q8:=(y.cell (p:=⟨w.heap.size,8,none⟩) (by simp;omega)).trans (show _=some (Value.int .i64 j.left.2.2.1) by simp);have q9:=(y.cell (p:=⟨w.heap.size,9,none⟩) (by simp;omega)).trans (show _=some (Value.string j.left.2.2.2) by simp);have Z:=(y.cell (p:=⟨w.heap.size,10,none⟩) (by simp;omega)).trans (show _=some (Value.string j.right.1) by simp);have U:=(y.cell (p:=⟨w.heap.size,11,none⟩) (by simp;omega)).trans (show _=some (Value.int .i64 j.right.2.1) by simp);have O:=(y.cell (p:=⟨w.heap.size,12,none⟩) (by simp;omega)).trans (show _=some (Value.int .i64 j.right.2.2.1) by simp);have M:=(y.cell (p:=⟨w.heap.size,13,none⟩) (by simp;omega)).trans (show _=some (Value.string j.right.2.2.2) by simp);have K:=Hk (Ai y D);clear y D)|(go_at_call 167;fail));refine(al.out _ K.out.2).mono ?_;rintro e w3 ⟨rfl,E⟩;have F:=bel_then K.out.2 E;have J:=Hk F;clear E F;go_wp2;go_ret;exact⟨rfl,J.out⟩
  ·rw[if_neg (fun h=>g1 h.1)];have g1':(kc != 1)=true:=by simp[g1]
   go_enter Tryz.func126,Tryz.ntmps126;go_wp2_with (first|(go_at_call 37;refine(HS.out _ _ (by simp)).mono ?_;rintro e w1 ⟨rfl,rfl⟩)|(go_at_call 133;refine(HP.out _ (bel_box (Qaa _ _) _)).mono ?_;rintro e V ⟨rfl,y⟩;have D:=bel_then (bel_box (Qaa _ _) _) y;have I:w.heap.size<V.heap.size:=(by have:=y.size;simp at this;omega);have d2:=cK D hb hd;have q6:=(y.cell (p:=⟨w.heap.size,6,none⟩) (by simp;omega)).trans (show _=some (Value.string j.left.1) by simp);have q7:=(y.cell (p:=⟨w.heap.size,7,none⟩) (by simp;omega)).trans (show _=some (Value.int .i64 j.left.2.1) by simp);have q8:=(y.cell (p:=⟨w.heap.size,8,none⟩) (by simp;omega)).trans (show _=some (Value.int .i64 j.left.2.2.1) by simp);have q9:=(y.cell (p:=⟨w.heap.size,9,none⟩) (by simp;omega)).trans (show _=some (Value.string j.left.2.2.2) by simp);have Z:=(y.cell (p:=⟨w.heap.size,10,none⟩) (by simp;omega)).trans (show _=some (Value.string j.right.1) by simp);have U:=(y.cell (p:=⟨w.heap.size,11,none⟩) (by simp;omega)).trans (show _=some (Value.int .i64 j.right.2.1) by simp);have O:=(y.cell (p:=⟨w.heap.size,12,none⟩) (by simp;omega)).trans (show _=some (Value.int .i64 j.right.2.2.1) by simp);have M:=(y.cell (p:=⟨w.heap.size,13,none⟩) (by simp;omega)).trans (show _=some (Value.string j.right.2.2.2) by simp);have K:=Hk (Ai y D);clear y D)|(go_at_call 167;fail));go_ret;exact⟨rfl,K.out.2⟩
end Go.Proofs.YtjlgejennghhlaaGreatDoor
