import Derived.Test.YtjlgejennghhlaaGreatDoorQ01
import Derived.Test.YtjlgejennghhlaaGreatDoorQ06
import Derived.Test.YtjlgejennghhlaaGreatDoorQ02
set_option linter.unusedSimpArgs false
set_option linter.unusedVariables false
set_option linter.unusedSectionVars false
set_option maxRecDepth 1000000
set_option maxHeartbeats 16000000
namespace Go.Proofs.YtjlgejennghhlaaGreatDoor
open Go.RowKit
def QlX (op:List UInt8) (a b:Int):Int:=if op=[43] then a+b else if op=[45] then a-b else a*b
def Qaz (n:Int):Prop:=-1000000000<=n/\n<=1000000000
instance (n:Int):Decidable (Qaz n):=by unfold Qaz;exact inferInstance
theorem QlY {a b:Int} (y:Qaz a) (D:Qaz b): -1000000000000000000<=a*b/\a*b<=1000000000000000000:=by
 obtain⟨I,H⟩:=y;obtain⟨F,J⟩:=D;have h:(a*b).natAbs<=1000000000*1000000000:=by
  rw[Int.natAbs_mul];exact Nat.mul_le_mul (by omega) (by omega)
 omega
theorem QkB (op:ByteArray) (a b:Int) (w:World) (h:Qaz a) (y:Qaz b):
 Calls Tryz.prog 172 #[.string op,.int .i64 a,.int .i64 b] w fun e w'=>e=.returned (.int .i64 (QlX op.data.toList a b))/\w'=w:=by
 obtain⟨K,F⟩:=QlY h y;obtain⟨I,H⟩:=h;obtain⟨D,J⟩:=y;go_enter Tryz.func172,Tryz.ntmps172;go_wp2
 all_goals go_ret
 all_goals refine⟨Qby ?_,rfl⟩
 all_goals simp_all [QlX,ByteArray.toList_eq]
theorem QfC (n:Int) (w:World) (h:Qaz n):
 Calls Tryz.prog 171 #[.int .i64 n] w fun e w'=>e=.returned (.tuple #[aggV (1,n,⟨#[]⟩),.nilIface])/\Below w.heap.size w w':=by
 obtain⟨y,D⟩:=h;go_enter Tryz.func171,Tryz.ntmps171;go_wp2;refine bodyPost_ret (v:=.tuple #[aggV (1,n,⟨#[]⟩),.nilIface]) (by simp[results,Tryz.results171,go_sem]) rfl ⟨rfl,Qaa _ _⟩
theorem Qeo (n:Int) (w:World) (h:¬Qaz n):
 Calls Tryz.prog 171 #[.int .i64 n] w fun e w'=>e=.returned (.tuple #[aggV (0,0,⟨#[]⟩),QbK 2])/\Below w.heap.size w w':=by
 unfold Qaz at h
 by_cases h1:n< -1000000000
 ·clear h;go_enter Tryz.func171,Tryz.ntmps171;go_wp2;refine bodyPost_ret (v:=.tuple #[aggV (0,0,⟨#[]⟩),.iface 37 (.int .i64 2)]) (by simp[results,Tryz.results171,go_sem]) rfl ⟨rfl,Qaa _ _⟩
 ·have y:1000000000<n:=by omega
  clear h;go_enter Tryz.func171,Tryz.ntmps171;go_wp2;refine bodyPost_ret (v:=.tuple #[aggV (0,0,⟨#[]⟩),.iface 37 (.int .i64 2)]) (by simp[results,Tryz.results171,go_sem]) rfl ⟨rfl,Qaa _ _⟩
def Qbr:List ByteArray:=[⟨#[43]⟩,⟨#[45]⟩,⟨#[42]⟩]
theorem Qn1 (w:World):Qco (w.alloc (.cells #[.string ⟨#[43]⟩,.string ⟨#[45]⟩,.string ⟨#[42]⟩] 9)) w.heap.size 0 Qbr:=by
 intro j y
 match j,y with
 |0,_=>simp[Qbr]
 |1,_=>simp[Qbr]
 |2,_=>simp[Qbr]
 |j+3,h=>exact absurd h (by simp[Qbr])
theorem QlZ (x:ByteArray) (W:World) (H:Nat) (y:W.heap.size=H) (h:inS Qbr x.data.toList=true):
 Calls Tryz.prog 37 #[.slice (some ⟨H,0,none⟩) 3 3,.string x] (W.alloc (.cells #[.string ⟨#[43]⟩,.string ⟨#[45]⟩,.string ⟨#[42]⟩] 9)) fun e w'=>e=.returned (.bool true)/\w'=W.alloc (.cells #[.string ⟨#[43]⟩,.string ⟨#[45]⟩,.string ⟨#[42]⟩] 9):=by
 subst y;rw[<-h];exact QcN W.heap.size 0 3 3 Qbr x _ rfl (by decide) (Qn1 W)
def QbV (cs:List Cl) (j:Jb) (nm:List UInt8):Int:=match Qaq cs nm with
 |none=>7
 |some i=>if(cs[i]?.getD (⟨#[]⟩,0)).2=1/\QbY cs j.left=1/\QbY cs j.right=1 then 0 else 13
theorem QiQ (b o n c cb co cc:Nat) (cs:List Cl) (nm:ByteArray) (j:Jb) (w:World) (hj:j.cols=.slice (some ⟨cb,co,none⟩) 1 cc) (aX:cb<w.heap.size) (s0:w.cell? ⟨cb,co,none⟩=some (.string nm)) (ak:inS Qbr j.op.data.toList=true)
 (hn:cs.length=n) (al:n<=100) (hb:b<w.heap.size) (hc:Qau w b o cs) (hx:j.left.2.2.2.size<=maxLen) (aJ:j.right.2.2.2.size<=maxLen):
 Calls Tryz.prog 126 #[.agg j.cells,.slice (some ⟨b,o,none⟩) n c] w fun e w'=>e=.returned (QbK (QbV cs j nm.data.toList))/\Below w.heap.size w w':=by
 have ad:=fun W (O:Below w.heap.size w W)=>Qfx b o n c cs j.left W hn al (by have:=O.size;omega) (hc.below O hb) hx
 have ac:=fun W (O:Below w.heap.size w W)=>Qfx b o n c cs j.right W hn al (by have:=O.size;omega) (hc.below O hb) aJ
 have hP:=fun W (O:Below w.heap.size w W)=>QaH b o n c cs nm W hn al (by have:=O.size;omega) (hc.below O hb)
 have HS:=Hk (fun W H hH=>QlZ j.op W H hH ak);have ae:QaC (w.alloc (.cells j.cells 50)) w.heap.size j:=fun k v hk=>by rw[World.cell?_alloc_at _ _ _ _ rfl];exact hk
 unfold Jb.cells at ae⊢;rw[hj] at ae⊢;have ay:=Hk ae;clear ae
 cases gp:Qaq cs nm.data.toList with
 |none=>
  have ht:QbV cs j nm.data.toList=7:=by unfold QbV;rw[gp]
  rw[show QaB cs nm.data.toList= -1 by rw[QaB,gp]] at hP;have HP:=Hk hP;rw[ht];clear ht hn hc gp hP ad ac ak ay;go_enter Tryz.func126,Tryz.ntmps126;go_wp2_with (first|(go_at_call 37;refine(HS.out _ _ (by simp)).mono ?_;rintro e w1 ⟨rfl,rfl⟩)|(go_at_call 133;refine(HP.out _ (bel_box (Qaa _ _) _)).mono ?_;rintro e Z ⟨rfl,y⟩));go_ret;exact⟨rfl,bel_then (bel_box (Qaa _ _) _) y⟩
 |some i=>
  have az:=Qap gp;rw[show QaB cs nm.data.toList=(i:Int) by rw[QaB,gp]] at hP;have aY:(i:Int)<(n:Int):=by omega
  have ht:QbV cs j nm.data.toList=if cs[i].2=1/\QbY cs j.left=1/\QbY cs j.right=1 then 0 else 13:=by
   unfold QbV;rw[gp];simp only[List.getElem?_eq_getElem az,Option.getD_some]
  have hd:=(hc i az).2;rw[ht];have HP:=Hk hP;clear ht hn gp hP ak;generalize cs[i]=ci at*;obtain⟨kl,au⟩:∃k,QbY cs j.left=k:=⟨_,rfl⟩;obtain⟨kr,aw⟩:∃k,QbY cs j.right=k:=⟨_,rfl⟩;rw[au] at ad⊢;rw[aw] at ac⊢;have am:=Hk ad;have av:=Hk ac;clear au aw ad ac;clear ay hc;obtain⟨kc,ax⟩:∃k,ci.2=k:=⟨_,rfl⟩;rw[ax] at hd⊢;clear ax
  by_cases g1:kc=1
  ·subst g1
   by_cases g2:kl=1
   ·subst g2
    by_cases g3:kr=1
    ·subst g3;rw[if_pos ⟨rfl,rfl,rfl⟩];go_enter Tryz.func126,Tryz.ntmps126;go_wp2_with (first|(go_at_call 37;refine(HS.out _ _ (by simp)).mono ?_;rintro e w1 ⟨rfl,rfl⟩)|(go_at_call 133;refine(HP.out _ (bel_box (Qaa _ _) _)).mono ?_;rintro e Z ⟨rfl,y⟩;have D:=bel_then (bel_box (Qaa _ _) _) y;have J:w.heap.size<Z.heap.size:=(by have:=y.size;simp at this;omega);have d2:=cK D hb hd;have q6:=(y.cell (p:=⟨w.heap.size,6,none⟩) (by simp;omega)).trans (show _=some (Value.string j.left.1) by simp);have q7:=(y.cell (p:=⟨w.heap.size,7,none⟩) (by simp;omega)).trans (show _=some (Value.int .i64 j.left.2.1) by simp);have q8:=(y.cell (p:=⟨w.heap.size,8,none⟩) (by simp;omega)).trans (show _=some (Value.int .i64 j.left.2.2.1) by simp);have q9:=(y.cell (p:=⟨w.heap.size,9,none⟩) (by simp;omega)).trans (show _=some (Value.string j.left.2.2.2) by simp);have aa:=(y.cell (p:=⟨w.heap.size,10,none⟩) (by simp;omega)).trans (show _=some (Value.string j.right.1) by simp);have V:=(y.cell (p:=⟨w.heap.size,11,none⟩) (by simp;omega)).trans (show _=some (Value.int .i64 j.right.2.1) by simp);have U:=(y.cell (p:=⟨w.heap.size,12,none⟩) (by simp;omega)).trans (show _=some (Value.int .i64 j.right.2.2.1) by simp);have N:=(y.cell (p:=⟨w.heap.size,13,none⟩) (by simp;omega)).trans (show _=some (Value.string j.right.2.2.2) by simp);have M:=Hk (Ai y D);clear y D)|(go_at_call 167;fail));refine(am.out _ M.out.2).mono ?_;rintro e w3 ⟨rfl,F⟩;have aL:=cK F J aa;have aM:=cK F J V;have aR:=cK F J U;have aN:=cK F J N;have I:=bel_then M.out.2 F;have K:=Hk I;clear F I;go_wp2_with (go_at_call 167;refine(av.out _ K.out).mono ?_;rintro e w4 ⟨rfl,aq⟩);go_ret;exact⟨rfl,bel_then K.out aq⟩
    ·rw[if_neg (fun h=>g3 h.2.2)];have g3':(kr != 1)=true:=by simp[g3]
     go_enter Tryz.func126,Tryz.ntmps126;go_wp2_with (first|(go_at_call 37;refine(HS.out _ _ (by simp)).mono ?_;rintro e w1 ⟨rfl,rfl⟩)|(go_at_call 133;refine(HP.out _ (bel_box (Qaa _ _) _)).mono ?_;rintro e Z ⟨rfl,y⟩;have D:=bel_then (bel_box (Qaa _ _) _) y;have J:w.heap.size<Z.heap.size:=(by have:=y.size;simp at this;omega);have d2:=cK D hb hd;have q6:=(y.cell (p:=⟨w.heap.size,6,none⟩) (by simp;omega)).trans (show _=some (Value.string j.left.1) by simp);have q7:=(y.cell (p:=⟨w.heap.size,7,none⟩) (by simp;omega)).trans (show _=some (Value.int .i64 j.left.2.1) by simp);have q8:=(y.cell (p:=⟨w.heap.size,8,none⟩) (by simp;omega)).trans (show _=some (Value.int .i64 j.left.2.2.1) by simp);have q9:=(y.cell (p:=⟨w.heap.size,9,none⟩) (by simp;omega)).trans (show _=some (Value.string j.left.2.2.2) by simp);have aa:=(y.cell (p:=⟨w.heap.size,10,none⟩) (by simp;omega)).trans (show _=some (Value.string j.right.1) by simp);have V:=(y.cell (p:=⟨w.heap.size,11,none⟩) (by simp;omega)).trans (show _=some (Value.int .i64 j.right.2.1) by simp);have U:=(y.cell (p:=⟨w.heap.size,12,none⟩) (by simp;omega)).trans (show _=some (Value.int .i64 j.right.2.2.1) by simp);have N:=(y.cell (p:=⟨w.heap.size,13,none⟩) (by simp;omega)).trans (show _=some (Value.string j.right.2.2.2) by simp);have M:=Hk (Ai y D);clear y D)|(go_at_call 167;fail));refine(am.out _ M.out.2).mono ?_;rintro e w3 ⟨rfl,F⟩;have aL:=cK F J aa;have aM:=cK F J V;have aR:=cK F J U;have aN:=cK F J N;have I:=bel_then M.out.2 F;have K:=Hk I;clear F I;go_wp2_with (go_at_call 167;refine(av.out _ K.out).mono ?_;rintro e w4 ⟨rfl,aq⟩);go_ret;exact⟨rfl,bel_then K.out aq⟩
   ·rw[if_neg (fun h=>g2 h.2.1)];have g2':(kl != 1)=true:=by simp[g2]
    go_enter Tryz.func126,Tryz.ntmps126;go_wp2_with (first|(go_at_call 37;refine(HS.out _ _ (by simp)).mono ?_;rintro e w1 ⟨rfl,rfl⟩)|(go_at_call 133;refine(HP.out _ (bel_box (Qaa _ _) _)).mono ?_;rintro e Z ⟨rfl,y⟩;have D:=bel_then (bel_box (Qaa _ _) _) y;have J:w.heap.size<Z.heap.size:=(by have:=y.size;simp at this;omega);have d2:=cK D hb hd;have q6:=(y.cell (p:=⟨w.heap.size,6,none⟩) (by simp;omega)).trans (show _=some (Value.string j.left.1) by simp);have q7:=(y.cell (p:=⟨w.heap.size,7,none⟩) (by simp;omega)).trans (show _=some (Value.int .i64 j.left.2.1) by simp);have q8:=(y.cell (p:=⟨w.heap.size,8,none⟩) (by simp;omega)).trans (show _=some (Value.int .i64 j.left.2.2.1) by simp);have q9:=(y.cell (p:=⟨w.heap.size,9,none⟩) (by simp;omega)).trans (show _=some (Value.string j.left.2.2.2) by simp);have aa:=(y.cell (p:=⟨w.heap.size,10,none⟩) (by simp;omega)).trans (show _=some (Value.string j.right.1) by simp);have V:=(y.cell (p:=⟨w.heap.size,11,none⟩) (by simp;omega)).trans (show _=some (Value.int .i64 j.right.2.1) by simp);have U:=(y.cell (p:=⟨w.heap.size,12,none⟩) (by simp;omega)).trans (show _=some (Value.int .i64 j.right.2.2.1) by simp);have N:=(y.cell (p:=⟨w.heap.size,13,none⟩) (by simp;omega)).trans (show _=some (Value.string j.right.2.2.2) by simp);have M:=Hk (Ai y D);clear y D)|(go_at_call 167;fail));refine(am.out _ M.out.2).mono ?_;rintro e w3 ⟨rfl,F⟩;have I:=bel_then M.out.2 F;have K:=Hk I;clear F I;go_wp2;go_ret;exact⟨rfl,K.out⟩
  ·rw[if_neg (fun h=>g1 h.1)];have g1':(kc != 1)=true:=by simp[g1]
   go_enter Tryz.func126,Tryz.ntmps126;go_wp2_with (first|(go_at_call 37;refine(HS.out _ _ (by simp)).mono ?_;rintro e w1 ⟨rfl,rfl⟩)|(go_at_call 133;refine(HP.out _ (bel_box (Qaa _ _) _)).mono ?_;rintro e Z ⟨rfl,y⟩;have D:=bel_then (bel_box (Qaa _ _) _) y;have J:w.heap.size<Z.heap.size:=(by have:=y.size;simp at this;omega);have d2:=cK D hb hd;have q6:=(y.cell (p:=⟨w.heap.size,6,none⟩) (by simp;omega)).trans (show _=some (Value.string j.left.1) by simp);have q7:=(y.cell (p:=⟨w.heap.size,7,none⟩) (by simp;omega)).trans (show _=some (Value.int .i64 j.left.2.1) by simp);have q8:=(y.cell (p:=⟨w.heap.size,8,none⟩) (by simp;omega)).trans (show _=some (Value.int .i64 j.left.2.2.1) by simp);have q9:=(y.cell (p:=⟨w.heap.size,9,none⟩) (by simp;omega)).trans (show _=some (Value.string j.left.2.2.2) by simp);have aa:=(y.cell (p:=⟨w.heap.size,10,none⟩) (by simp;omega)).trans (show _=some (Value.string j.right.1) by simp);have V:=(y.cell (p:=⟨w.heap.size,11,none⟩) (by simp;omega)).trans (show _=some (Value.int .i64 j.right.2.1) by simp);have U:=(y.cell (p:=⟨w.heap.size,12,none⟩) (by simp;omega)).trans (show _=some (Value.int .i64 j.right.2.2.1) by simp);have N:=(y.cell (p:=⟨w.heap.size,13,none⟩) (by simp;omega)).trans (show _=some (Value.string j.right.2.2.2) by simp);have M:=Hk (Ai y D);clear y D)|(go_at_call 167;fail));go_ret;exact⟨rfl,M.out.2⟩
theorem Qmb {w h:World} {B B':Nat} {u v:Value} {e J:TypeId} {z K k k':Nat} {xs y:List Value} (I:w.ownsRow B e z u k xs) (D:h.ownsRow B' J K v k' y) (M:w.heap.size<=B'):Apart u v:=by
 intro b H F;have:=(I.lt b H).2;have:=(D.lt b F).1;omega
theorem QkF {w F:World} {B B':Nat} {us:List Value} {rs:List (List Vl)} {u:Value} {K:TypeId} {M k':Nat} {H:List Value} (h:us.Pairwise Apart) (D:Qab w B us rs) (I:F.ownsRow B' K M u k' H) (J:w.heap.size<=B'):(us++[u]).Pairwise Apart:=by
 rw[List.pairwise_append];refine⟨h,List.pairwise_singleton _ _,fun a ha b hb=>?_⟩;simp at hb;subst hb;obtain⟨j,y,rfl⟩:=List.mem_iff_getElem.1 ha;exact Qmb (D.2 j y (by rw[<-D.1];exact y)).1 I J
theorem QhU (v:Value) (rs:List (List Vl)) (m:Nat) (w:World) (hr:QaG w v rs) (hl:∀r∈rs,r.length=m) (h1:1<=m) (h6:m<=100) (aJ:rs.length<=100):
 Calls Tryz.prog 137 #[v] w fun e w'=>∃v' us,e=.returned v'/\w'.ownsRow w.heap.size 84 1 v' rs.length us/\Qab w' w.heap.size us rs/\us.Pairwise Apart/\Below w.heap.size w w':=by
 obtain⟨i0,hi,aq,ar,av⟩:=info_parts Tryz.infoRow;have HR:=Hk hr;have HL:=Hk hl;clear hl;obtain⟨va,aM,rfl,-⟩:=hr;go_enter Tryz.func137,Tryz.ntmps137;go_wp2;go_loopw [3,8] (fun l i wr=>∃(k:Nat) (us:List Value),k<=rs.length/\i=.int .i64 k/\wr.ownsRow w.heap.size 84 1 l k us/\Qab wr w.heap.size us (rs.take k)/\us.Pairwise Apart/\Below w.heap.size w wr) (fun _ i _=>rs.length-(intOf i).toNat)
 case atStart=>exact⟨0,[],Nat.zero_le _,rfl,World.ownsRow_nil _ _ _ _,Qab.nil _ _,List.Pairwise.nil,Below.refl _ _⟩
 case round=>
  obtain⟨k,us,hk,rfl,D,h,J,H⟩:=hrel;obtain⟨la,lc,rfl⟩:=own_slice D;have F:=Hk (Ai D (Ai h J));have HX:=Hk H;have aK:=H.size
  by_cases hlt:k<rs.length
  ·obtain⟨b,o,c,ac,ao,ag⟩:=QgN HR.out (by omega);simp only[Value.slice.injEq,true_and] at ac;obtain⟨rfl,rfl⟩:=ac;obtain⟨u,hu,O⟩:=ag k hlt;have cu:=cK H ao hu;have ae:=O.below H;obtain⟨ua,uc,rfl⟩:=row_slice O;have ak:=HL.out _ (List.getElem_mem hlt);have ad:=Qdb _ _ wr ae (by omega) (by omega);have aj:∀x∈rs[k],x.2.2.size<=maxLen:=by obtain⟨_,_,_,hs,_⟩:=O;exact hs
   have HC:=Hk ad;have HS:=Hk (Ai aj ak);clear ad ag hu O ae H D h aj ak J;generalize af:rs[k]=rk at*;have ay:=Hk af;clear af;go_wp2_with (first|(go_at_call 103;refine HC.out.mono ?_;rintro e w1 ⟨v1,rfl,K,I⟩;obtain⟨U,M,rfl⟩:=own_slice K)|(at_builtin;refine wpList_append_own _ rfl _ _ 52 rfl w.heap.size 84 i0 (.slice none 0 0) 1 24 Tryz.underlying52 hi aq ar av rfl (by decide) _ _ _ rfl ((owns_below F.out.1 I).alloc _) ⟨w1.heap.size,0,none⟩ 1 1 [.slice U rk.length M] rfl rfl (news1 _ _ _ _ rfl) (Qc2 _ _ _) ?c3 ?c4 ?c5 ?_))
   case c3=>unfold maxLen;omega
   case c4=>omega
   case c5=>have:=I.size;simp;omega
   intro v' w5 N y _;have aL:=I.size;have Z:Below w.heap.size w w5:=((bel_then HX.out I).alloc (by omega) _).grown y (by simp;omega) (fun q hq=>(F.out.1.lt q hq).1);have V:=((owns_below F.out.1 I).alloc (.cells #[.slice U rk.length M] 84));have al:=((F.out.2.1.below I).below (Qaa w1 (.cells #[.slice U rk.length M] 84))).grow V y;have ah:=(K.alloc (.cells #[.slice U rk.length M] 84)).kept y (Qb2 (by decide) (K.alloc _) V);have aa:=al.snoc (own_mono (by omega) ah) HS.out.1;have ai:=QkF F.out.2.2 F.out.2.1 K (Nat.le_refl _);rw[show rs.take k++[rk]=rs.take (k+1) by rw[List.take_succ_eq_append_getElem hlt,ay.out]] at aa;have HF:=Hk (Ai N (Ai aa (Ai ai Z)));clear N y aa Z al ah V ai;go_wp2;go_roundw
   case rel=>exact⟨k+1,_,by omega,by go_num,HF.out.1,HF.out.2.1,HF.out.2.2.1,HF.out.2.2.2⟩
   case measure=>simp[intOf];omega
  ·have au:k=rs.length:=by omega
   subst au;rw[List.take_of_length_le (Nat.le_refl _)] at h;clear F;have F:=Hk (Ai D (Ai h J));clear D h H J;go_wp2;go_ret;exact⟨_,us,rfl,F.out.1,F.out.2.1,F.out.2.2,HX.out⟩
theorem QhV (r:List Vl) (i:Nat) (x:Vl):Qag (r.set i x)=(((Qag r).set (i*3) (.int .i64 x.1)).set (i*3+1) (.int .i64 x.2.1)).set (i*3+2) (.string x.2.2)\/¬i<r.length:=by
 by_cases h:i<r.length
 ·left
  induction r generalizing i with
  |nil=>simp at h
  |cons a r ih=>
   cases i with
   |zero=>simp[Qag]
   |succ i=>
    have h':i<r.length:=by simpa using h
    have e:=ih i h';simp only[Qag,List.set_cons_succ,List.flatMap_cons] at e⊢;rw[e,show(i+1)*3=i*3+3 by omega];simp[List.set_cons_succ]
 ·exact Or.inr h
theorem Qpv {w:World} {B g c:Nat} {r:List Vl} (h:w.ownsRow B 46 3 (.slice (some ⟨g,0,none⟩) r.length c) r.length (Qag r)) (i:Nat) (x:Vl) (y:i<r.length):
 (((w.setCell ⟨g,i*3,none⟩ (.int .i64 x.1)).setCell ⟨g,i*3+1,none⟩ (.int .i64 x.2.1)).setCell ⟨g,i*3+2,none⟩ (.string x.2.2)).ownsRow B 46 3 (.slice (some ⟨g,0,none⟩) r.length c) r.length (Qag (r.set i x)):=by
 have e:=(QhV r i x).resolve_right (fun h=>h y);rw[e];exact(((h.stored _ _).1.stored _ _).1.stored _ _).1
theorem QhW {w:World} {B g n a b c:Nat} {x y z u:Value} {e:TypeId} {s:Nat} {xs:List Value} (h:w.ownsRow B e s u n xs) (D:u.ownBlock≠some g):(((w.setCell ⟨g,a,none⟩ x).setCell ⟨g,b,none⟩ y).setCell ⟨g,c,none⟩ z).ownsRow B e s u n xs:=
 ownsRow_setCell_other (ownsRow_setCell_other (ownsRow_setCell_other h D _) D _) D _
theorem Qab.store {w:World} {B g c k:Nat} {us:List Value} {rs:List (List Vl)} (h:Qab w B us rs) (V:us.Pairwise Apart) (Z:k<rs.length) (F:us[k]? =some (.slice (some ⟨g,0,none⟩) rs[k].length c)) (i:Nat) (x:Vl) (hi:i<rs[k].length) (hx:x.2.2.size<=maxLen):
 Qab (((w.setCell ⟨g,i*3,none⟩ (.int .i64 x.1)).setCell ⟨g,i*3+1,none⟩ (.int .i64 x.2.1)).setCell ⟨g,i*3+2,none⟩ (.string x.2.2)) B us (rs.set k (rs[k].set i x)):=by
 have H:k<us.length:=by rw[h.1];exact Z
 rw[List.getElem?_eq_getElem H] at F;injection F with F;refine⟨by simp[h.1],fun j hj hj'=>?_⟩;have M:j<rs.length:=by simpa using hj'
 by_cases e:k=j
 ·subst e;obtain⟨I,N⟩:=h.2 k hj M;simp only[List.getElem_set_self,List.length_set];rw[F] at I⊢;refine⟨Qpv I i x hi,fun y D=>?_⟩;rcases List.mem_or_eq_of_mem_set D with D|D
  ·exact N y D
  ·rw[D];exact hx
 ·obtain⟨I,N⟩:=h.2 j hj M;simp only[List.getElem_set_ne e];refine⟨QhW I ?_,N⟩;intro U;have K:=List.pairwise_iff_getElem.1 V;have J:us[k].ownBlock=some g:=by rw[F];rfl
  rcases Nat.lt_or_ge k j with O|ac
  ·exact K k j H hj O g J U
  ·exact K j k hj H (by omega) g U J
end Go.Proofs.YtjlgejennghhlaaGreatDoor
namespace Go.Proofs.YtjlgejennghhlaaGreatDoor.Fw
open Go.RowKit
abbrev By:=List UInt8
abbrev Tk:=Nat×By×Nat
abbrev ba (l:By):ByteArray:=⟨l.toArray⟩
abbrev PE (α:Type):=Except (Int×Nat) (α×List Tk)
def blankB (c:UInt8):Bool:=c==32||c==10
def Qnx (c:UInt8):Bool:=97<=c.toNat&&c.toNat<=122
def digB (c:UInt8):Bool:=48<=c.toNat&&c.toNat<=57
def lowdigB (c:UInt8):Bool:=Qnx c||digB c
def runL (p:UInt8->Bool) (l:By):Nat:=(l.takeWhile p).length
def QaD:List By:=[[60,62],[60,61],[62,61],[60],[62],[61],[43],[45],[42],[44],[59],[58],[46]]
def QaZ:By->Option (Nat×Nat)
 |[]=>none
 |c::r=>
  if Qnx c then some (0,runL lowdigB (c::r))
  else if digB c then some (1,runL digB (c::r))
  else if c==39 then(r.findIdx? (·==39)).map fun n=>(2,n+2)
  else(QaD.find? fun m=>m.isPrefixOf (c::r)).map fun m=>(3,m.length)
def QfN:Nat->By->Nat->Nat->Except (Int×Nat) (List Tk)
 |0,_,_,_=>.ok []
 |g+1,l,at',n=>
  if l.drop (runL blankB l)=[] then .ok []
  else match QaZ (l.drop (runL blankB l)) with
   |none=>.error (3,at'+runL blankB l)
   |some (k,len)=>
    if n=400 then .error (4,at'+runL blankB l)
    else match QfN g ((l.drop (runL blankB l)).drop len) (at'+runL blankB l+len) (n+1) with
     |.error e=>.error e
     |.ok ts=>.ok ((k,(l.drop (runL blankB l)).take len,at'+runL blankB l)::ts)
def QbZ (l:By):Except (Int×Nat) (List Tk):=
 match QfN (l.length+1) l 0 0 with
 |.error e=>.error e
 |.ok ts=>.ok (ts++[(4,[],l.length)])
def kindT (ts:List Tk):Nat:=match ts with |t::_=>t.1|[]=>4
def Qar (ts:List Tk):By:=match ts with |t::_=>t.2.1|[]=>[]
def Qa4 (ts:List Tk):Nat:=match ts with |t::_=>t.2.2|[]=>0
def wrongP {α:Type} (c:Int) (ts:List Tk):PE α:=.error (c,Qa4 ts)
def QbA (x:By) (ts:List Tk):PE Nat:=if Qar ts=x then .ok (Qa4 ts,ts.tail) else wrongP 3 ts
def Qbd (ts:List Tk):PE By:=if kindT ts≠0 then wrongP 3 ts else if 10<(Qar ts).length then wrongP 4 ts else .ok (Qar ts,ts.tail)
def QiV (l:By):Int:=match Lib.atoiAll l with |.ok n=>n|.range=>Lib.atoiSat l|_=>0
def Qhh (most:Int) (ts:List Tk):PE Int:=if kindT ts≠1 then wrongP 3 ts else if most<QiV (Qar ts) then wrongP 4 ts else .ok (QiV (Qar ts),ts.tail)
def QdB (l:By):By:=(l.drop 1).take (l.length-2)
def QkI (ts:List Tk):PE By:=if kindT ts≠2 then wrongP 3 ts else if Qao 2 0 (QdB (Qar ts))=false then wrongP 4 ts else .ok (QdB (Qar ts),ts.tail)
def QcZ (xs:List By) (ts:List Tk):PE By:=if Qar ts∈xs then .ok (Qar ts,ts.tail) else wrongP 3 ts
abbrev Ag:=By×Int×Int×By
def Qe5 (ts:List Tk):PE Ag:=
 if kindT ts=0 then(Qbd ts).map fun x=>((x.1,0,0,[]),x.2)
 else if kindT ts=2 then(QkI ts).map fun x=>(([],2,0,x.1),x.2)
 else if Qar ts=[45] then(Qhh 1000000000 ts.tail).map fun x=>(([],1,-x.1,[]),x.2)
 else(Qhh 1000000000 ts).map fun x=>(([],1,x.1,[]),x.2)
def Qer:Nat->List By->List Tk->PE (List By)
 |0,acc,ts=>.ok (acc,ts)
 |g+1,acc,ts=>if Qar ts=[44] then(Qbd ts.tail).bind fun x=>Qer g (acc++[x.1]) x.2 else .ok (acc,ts)
def Qcp (ts:List Tk):PE (List By):=(Qbd ts).bind fun x=>Qer x.2.length [x.1] x.2
structure FIn where
 at_:Nat
 name:By
 cols:List (By×Int)
structure FJob where
 at_:Nat
 code:Int
 outs:List By
 ins:List By
 cols:List By
 op:By
 left:Ag
 right:Ag
 retry:Int
structure FOut where
 at_:Nat
 name:By
 from_:By
structure Flw where
 ins:List FIn
 jobs:List FJob
 outs:List FOut
def wIn:By:=[105,110]
def Qhi:By:=[106,111,98]
def Qjy:By:=[111,117,116]
def Qny:By:=[105,110,116]
def Qge:By:=[116,101,120,116]
def QhY:By:=[114,101,116,114,121]
def Qml:By:=[119,104,101,114,101]
def wBy:By:=[98,121]
def wSum:By:=[115,117,109]
def Qp9:By:=[109,97,120]
def Qbu:List By:=[[102,105,108,116,101,114],[115,101,116],[112,114,111,106,101,99,116],[115,111,114,116],[117,110,105,111,110],[100,105,115,116,105,110,99,116],[106,111,105,110],[103,114,111,117,112],[115,112,108,105,116]]
def Qbe (ts:List Tk):PE (By×Int):=(Qbd ts).bind fun x=>
 if Qar x.2=Qny then .ok ((x.1,1),x.2.tail) else if Qar x.2=Qge then .ok ((x.1,2),x.2.tail) else wrongP 3 x.2
def QfO:Nat->List (By×Int)->List Tk->PE (List (By×Int))
 |0,acc,ts=>.ok (acc,ts)
 |g+1,acc,ts=>if Qar ts=[44] then(Qbe ts.tail).bind fun x=>QfO g (acc++[x.1]) x.2 else .ok (acc,ts)
def Qc0 (ts:List Tk):PE FIn:=
 (QbA wIn ts).bind fun a=>(Qbd a.2).bind fun n=>(QbA [58] n.2).bind fun c=>(Qbe c.2).bind fun x=>(QfO x.2.length [x.1] x.2).bind fun l=>
 (QbA [59] l.2).bind fun e=>.ok (⟨a.1,n.1,l.1⟩,e.2)
def Qch (ts:List Tk):PE Int:=match Qbu.findIdx? (·==Qar ts) with
 |some i=>.ok ((i:Int)+1,ts.tail)
 |none=>wrongP 3 ts
def cmpL:List By:=[[61],[60,62],[60],[60,61],[62],[62,61]]
def ariL:List By:=[[43],[45],[42]]
def Qli:Ag:=([],0,0,[])
def Qb8 (at_:Nat) (outs:List By) (retry:Int) (ts:List Tk):PE FJob:=
 (Qch ts).bind fun c=>(Qbd c.2).bind fun i=>
 if c.1=1\/c.1=9 then
  (QbA Qml i.2).bind fun m=>(Qbd m.2).bind fun l=>(QcZ cmpL l.2).bind fun o=>(Qe5 o.2).bind fun r=>
  .ok (⟨at_,c.1,outs,[i.1],[],o.1,(l.1,0,0,[]),r.1,retry⟩,r.2)
 else if c.1=2 then
  (QbA [58] i.2).bind fun m=>(Qbd m.2).bind fun n=>(QbA [61] n.2).bind fun q=>(Qe5 q.2).bind fun l=>(QcZ ariL l.2).bind fun o=>(Qe5 o.2).bind fun r=>
  .ok (⟨at_,c.1,outs,[i.1],[n.1],o.1,l.1,r.1,retry⟩,r.2)
 else if c.1=3\/c.1=4 then
  (QbA wBy i.2).bind fun m=>(Qcp m.2).bind fun n=>
  .ok (⟨at_,c.1,outs,[i.1],n.1,[],Qli,Qli,retry⟩,n.2)
 else if c.1=5 then
  (QbA [44] i.2).bind fun m=>(Qbd m.2).bind fun n=>
  .ok (⟨at_,c.1,outs,[i.1,n.1],[],[],Qli,Qli,retry⟩,n.2)
 else if c.1=7 then
  (QbA [46] i.2).bind fun m=>(Qbd m.2).bind fun a=>(QbA [44] a.2).bind fun q=>(Qbd q.2).bind fun j=>(QbA [46] j.2).bind fun d=>(Qbd d.2).bind fun b=>
  .ok (⟨at_,c.1,outs,[i.1,j.1],[a.1,b.1],[],Qli,Qli,retry⟩,b.2)
 else if c.1=8 then
  (QbA wBy i.2).bind fun m=>(Qbd m.2).bind fun a=>(QcZ [wSum,Qp9] a.2).bind fun o=>(Qbd o.2).bind fun b=>
  .ok (⟨at_,c.1,outs,[i.1],[a.1,b.1],o.1,Qli,Qli,retry⟩,b.2)
 else .ok (⟨at_,c.1,outs,[i.1],[],[],Qli,Qli,retry⟩,i.2)
def QfP (ts:List Tk):PE Int:=if Qar ts=QhY then Qhh 5 ts.tail else .ok (0,ts)
def Qmm (ts:List Tk):PE FJob:=
 (QbA Qhi ts).bind fun a=>(Qcp a.2).bind fun o=>(QfP o.2).bind fun r=>(QbA [61] r.2).bind fun q=>(Qb8 a.1 o.1 r.1 q.2).bind fun j=>(QbA [59] j.2).bind fun e=>.ok (j.1,e.2)
def Qbs (ts:List Tk):PE FOut:=
 (QbA Qjy ts).bind fun a=>(Qbd a.2).bind fun n=>(QbA [61] n.2).bind fun q=>(Qbd q.2).bind fun f=>(QbA [59] f.2).bind fun e=>.ok (⟨a.1,n.1,f.1⟩,e.2)
def partsP {α:Type} (x:By) (p:List Tk->PE α):Nat->List α->List Tk->PE (List α)
 |0,acc,ts=>.ok (acc,ts)
 |g+1,acc,ts=>if Qar ts=x then(if acc.length=16 then wrongP 4 ts else(p ts).bind fun y=>partsP x p g (acc++[y.1]) y.2) else .ok (acc,ts)
def QeW (f:Flw) (ts:List Tk):Except (Int×Nat) Flw:=
 if Qar ts=wIn/\f.ins.length=16 then .error (4,Qa4 ts)
 else if Qar ts=Qhi/\f.jobs.length=16 then .error (4,Qa4 ts)
 else if kindT ts≠4 then .error (3,Qa4 ts) else .ok f
def Qc5 (ts:List Tk):Except (Int×Nat) Flw:=
 (partsP wIn Qc0 ts.length [] ts).bind fun i=>(partsP Qhi Qmm i.2.length [] i.2).bind fun j=>(partsP Qjy Qbs j.2.length [] j.2).bind fun o=>QeW ⟨i.1,j.1,o.1⟩ o.2
def parseF (l:By):Except (Int×Nat) Flw:=(QbZ l).bind Qc5
end Go.Proofs.YtjlgejennghhlaaGreatDoor.Fw
