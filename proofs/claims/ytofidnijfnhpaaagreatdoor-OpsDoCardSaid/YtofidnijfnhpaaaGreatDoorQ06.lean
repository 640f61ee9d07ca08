import Derived.Deep.RegionHeld3
import Derived.Deep.DeepCutAuto
import Derived.Test.YtofidnijfnhpaaaGreatDoorQ01
import Derived.Test.YtofidnijfnhpaaaGreatDoorQ05
set_option linter.unusedSimpArgs false
set_option linter.unusedVariables false
set_option linter.unusedSectionVars false
set_option maxRecDepth 1000000
set_option maxHeartbeats 16000000
namespace Go.Proofs.YtofidnijfnhpaaaGreatDoor
open Go.RowKit
theorem Qev (F ho E I b o n c q y cc:Nat) (cs:List Cl) (A:ByteArray) (j:Jb) (w:World) (h:j.code=2) (ag:0<E) (af:F<w.heap.size) (h0:w.cell? ⟨F,ho,none⟩=some (.slice (some ⟨b,o,none⟩) n c)) (J:j.cols=.slice (some ⟨q,y,none⟩) 1 cc) (T:q<w.heap.size) (U:w.cell? ⟨q,y,none⟩=some (.string A)) (K:inS QaF j.op.data.toList=true)
 (O:cs.length=n) (N:n<=100) (V:b<w.heap.size) (Z:Qas w b o cs) (hx:j.left.2.2.2.size<=maxLen) (M:j.right.2.2.2.size<=maxLen):
 Calls Tryz.prog 26 #[.agg j.cells,.slice (some ⟨F,ho,none⟩) E I] w fun e w'=>e=.returned (Qbp (Qa8 cs j A.data.toList))/\Below w.heap.size w w':=by
 have z:=fun W (B:Below w.heap.size w W)=>Qhd b o n c q y cc cs A j W J (by have:=B.size;omega) (cK B T U) K O N (by have:=B.size;omega) (Z.below B V) hx M
 unfold Jb.cells at z⊢
 generalize Qa8 cs j A.data.toList=r at*
 obtain⟨code,D⟩:∃k,j.code=k:=⟨_,rfl⟩
 rw[D] at z h⊢
 clear D
 subst h
 have HT:=Hk z
 have htk':(0:Int)<(E:Int):=by omega
 clear z O Z U J
 go_enter Tryz.func26,Tryz.ntmps26
 go_wp2_with (go_at_call 46;refine(HT.out _ (Qab _ _)).mono ?_;rintro e w1 ⟨rfl,ab⟩)
 go_ret
 exact⟨rfl,Qaa (Qab _ _) ab⟩
theorem Qa1 {n:Int} (h:n≠0):Qbp n=.iface 40 (.int .i64 n):=by unfold Qbp;rw[if_neg h]
theorem Qdp:Qbp 0=.nilIface:=rfl
theorem QfD (N K:Option Addr) (h D m M:Nat) (j:Jb) (o B:Nat) (w:World) (F:j.outs=.slice K m M) (E:QaP j.code=((o:Int),(B:Int))) (q:o=0\/h≠o\/m≠B):
 Calls Tryz.prog 10 #[.agg j.cells,.slice N h D] w fun e w'=>e=.returned (.tuple #[.slice none 0 0,Qbp 1])/\Below w.heap.size w w':=by
 have y:=fun W=>Qdo j.code W
 rw[E] at y
 simp only at y
 have A:=Hk y
 unfold Jb.cells
 rw[F]
 clear y E F
 by_cases z:o=0
 ·subst z
  clear q
  go_enter Tryz.func10,Tryz.ntmps10
  go_wp2_with (go_at_call 8;refine(A.out _).mono ?_;rintro e J ⟨rfl,rfl⟩)
  go_ret2
  exact⟨rfl,Qab _ _⟩
 ·have h0':((o:Int)==0)=false:=by simp;omega
  by_cases I:h=o
  ·have h1':((h:Int) != (o:Int))=false:=by simp;omega
   have h2':((m:Int) != (B:Int))=true:=by simp;omega
   clear q z I
   go_enter Tryz.func10,Tryz.ntmps10
   go_wp2_with (go_at_call 8;refine(A.out _).mono ?_;rintro e J ⟨rfl,rfl⟩)
   go_ret2
   exact⟨rfl,Qab _ _⟩
  ·have h1':((h:Int) != (o:Int))=true:=by simp;omega
   clear q z I
   go_enter Tryz.func10,Tryz.ntmps10
   go_wp2_with (go_at_call 8;refine(A.out _).mono ?_;rintro e J ⟨rfl,rfl⟩)
   go_ret2
   exact⟨rfl,Qab _ _⟩
theorem Qeb (E J:Option Addr) (z K:Nat) (j:Jb) (h q:Nat) (n:Int) (w:World) (B:j.outs=.slice J q K) (A:QaP j.code=((h:Int),(q:Int))) (I:h≠0) (F:n≠0)
 (o:∀W,Below w.heap.size w W->Calls Tryz.prog 26 #[.agg j.cells,.slice E h z] W fun e w'=>e=.returned (Qbp n)/\Below W.heap.size W w'):
 Calls Tryz.prog 10 #[.agg j.cells,.slice E h z] w fun e w'=>e=.returned (.tuple #[.slice none 0 0,Qbp n])/\Below w.heap.size w w':=by
 have y:=fun W=>Qdo j.code W
 rw[A] at y
 simp only at y
 have N:=Hk y
 rw[Qa1 F] at o⊢
 unfold Jb.cells at o⊢
 rw[B] at o⊢
 have M:=Hk o
 have h0':((h:Int)==0)=false:=by simp;omega
 have h1':((h:Int) != (h:Int))=false:=by simp
 have h2':((q:Int) != (q:Int))=false:=by simp
 clear y A B o I F
 go_enter Tryz.func10,Tryz.ntmps10
 go_wp2_with (first|(go_at_call 8;refine(N.out _).mono ?_;rintro e T ⟨rfl,rfl⟩)|(go_at_call 26;refine(M.out _ (Qab _ _)).mono ?_;rintro e O ⟨rfl,D⟩))
 go_ret2
 exact⟨rfl,Qaa (Qab _ _) D⟩
theorem Tryz.infoCols:(Tryz.prog.info? 33).map (fun i=>(i.zero,i.size,i.bytes))=some (some (.slice none 0 0),1,24):=by kernel_rfl
def Qbi (w:World) (B:Nat) (us:List Value) (cs:List Cl):Prop:=∀u∈us,w.ownsRow B 56 2 u cs.length (Qap cs)
theorem Qde (va oa:Option Addr) (T oc:Nat) (j:Jb) (I o:Nat) (cs:List Cl) (w:World) (hj:j.outs=.slice oa o oc) (hs:QaP j.code=((I:Int),(o:Int))) (h0:I≠0) (a5:o<=2)
 (hW:∀W,Below w.heap.size w W->Calls Tryz.prog 26 #[.agg j.cells,.slice va I T] W fun e w'=>e=.returned .nilIface/\Below W.heap.size W w')
 (hC:∀W,Below w.heap.size w W->Calls Tryz.prog 27 #[.agg j.cells,.slice va I T] W fun e w'=>∃u,e=.returned u/\w'.ownsRow W.heap.size 56 2 u cs.length (Qap cs)/\Below W.heap.size W w'):
 Calls Tryz.prog 10 #[.agg j.cells,.slice va I T] w fun e w'=>∃v us,e=.returned (.tuple #[v,.nilIface])/\w'.ownsRow w.heap.size 33 1 v o us/\Qbi w' w.heap.size us cs/\Below w.heap.size w w':=by
 obtain⟨i0,hi,aI,au,aD⟩:=info_parts Tryz.infoCols
 have hS:=fun W=>Qdo j.code W
 rw[hs] at hS
 simp only at hS
 have HS:=Hk hS
 unfold Jb.cells at hW hC⊢
 rw[hj] at hW hC⊢
 have HW:=Hk hW
 have HC:=Hk hC
 have h0':((I:Int)==0)=false:=by simp;omega
 have h1':((I:Int) != (I:Int))=false:=by simp
 have h2':((o:Int) != (o:Int))=false:=by simp
 clear hS hs hj hW hC h0
 go_enter Tryz.func10,Tryz.ntmps10
 go_wp2_with (first|(go_at_call 8;refine(HS.out _).mono ?_;rintro e w1 ⟨rfl,rfl⟩)|(go_at_call 26;refine(HW.out _ (Qab _ _)).mono ?_;rintro e F ⟨rfl,N⟩))
 have ag:Qaz F w.heap.size ⟨j.at_,j.code,.slice oa o oc,j.ins,j.cols,j.op,j.left,j.right,j.retry⟩:=Qaz.below (w:=w.alloc (.cells _ 28)) (fun k v hk=>by
  rw[World.cell?_alloc_at _ _ _ _ rfl];exact hk) N (by simp)
 have V:=Qaa (Qab _ _) N
 have hz2':w.heap.size<F.heap.size:=by have:=N.size;simp at this;omega
 have HJ:=Hk ag
 have Z:=Hk V
 clear HS HW ag V N
 go_loopw [9,39] (fun l i wr=>∃(k:Nat) (us:List Value),k<=o/\i=.int .i64 k/\wr.ownsRow F.heap.size 33 1 l k us/\Qbi wr w.heap.size us cs/\Below F.heap.size F wr) (fun _ i _=>o-(intOf i).toNat)
 case atStart=>exact⟨0,[],Nat.zero_le _,rfl,World.ownsRow_nil _ _ _ _,fun u A=>absurd A (by simp),Below.refl _ _⟩
 case round=>
  obtain⟨k,us,hk,rfl,D,B,J⟩:=hrel
  obtain⟨la,lc,rfl⟩:=Qae D
  have a4:=J.size
  have O:=Hk (Ai D (Ai B J))
  by_cases hlt:k<o
  ·have h:=HJ.out.below J hz2'
   have j0:wr.cell? ⟨w.heap.size,0,none⟩=some (.int .i64 j.at_):=h 0 _ rfl
   have j1:wr.cell? ⟨w.heap.size,1,none⟩=some (.int .i64 j.code):=h 1 _ rfl
   have j2:wr.cell? ⟨w.heap.size,2,none⟩=some (.slice oa o oc):=h 2 _ rfl
   have j3:wr.cell? ⟨w.heap.size,3,none⟩=some j.ins:=h 3 _ rfl
   have j4:wr.cell? ⟨w.heap.size,4,none⟩=some j.cols:=h 4 _ rfl
   have j5:wr.cell? ⟨w.heap.size,5,none⟩=some (.string j.op):=h 5 _ rfl
   have j6:wr.cell? ⟨w.heap.size,6,none⟩=some (.string j.left.1):=h 6 _ rfl
   have j7:wr.cell? ⟨w.heap.size,7,none⟩=some (.int .i64 j.left.2.1):=h 7 _ rfl
   have j8:wr.cell? ⟨w.heap.size,8,none⟩=some (.int .i64 j.left.2.2.1):=h 8 _ rfl
   have j9:wr.cell? ⟨w.heap.size,9,none⟩=some (.string j.left.2.2.2):=h 9 _ rfl
   have aE:wr.cell? ⟨w.heap.size,10,none⟩=some (.string j.right.1):=h 10 _ rfl
   have ao:wr.cell? ⟨w.heap.size,11,none⟩=some (.int .i64 j.right.2.1):=h 11 _ rfl
   have aC:wr.cell? ⟨w.heap.size,12,none⟩=some (.int .i64 j.right.2.2.1):=h 12 _ rfl
   have aA:wr.cell? ⟨w.heap.size,13,none⟩=some (.string j.right.2.2.2):=h 13 _ rfl
   have ax:wr.cell? ⟨w.heap.size,14,none⟩=some (.int .i64 j.retry):=h 14 _ rfl
   clear h D B J
   go_wp2_with (first|(go_at_call 27;refine(HC.out _ (Z.out.trans (O.out.2.2.mono Z.out.size))).mono ?_;rintro e w3 ⟨v1,rfl,af,z⟩;obtain⟨E,K,rfl⟩:=Qae af)|(at_builtin;refine wpList_append_own _ rfl _ _ 31 rfl F.heap.size 33 i0 (.slice none 0 0) 1 24 Tryz.underlying31 hi aI au aD rfl (by decide) _ _ _ rfl ((Qaf O.out.1 z).alloc _) ⟨w3.heap.size,0,none⟩ 1 1 [.slice E cs.length K] rfl rfl (QbG _ _ _ _ rfl) (QbZ _ _ _) ?c3 ?c4 ?c5 ?_))
   case c3=>unfold maxLen;omega
   case c4=>omega
   case c5=>have:=z.size;simp;omega
   intro v' w5 M y _
   have aZ:=z.size
   obtain⟨p1,p2,p3⟩:=O.out
   have q1:=(Qaf p1 z).alloc (.cells #[.slice E cs.length K] 33)
   have U:Below F.heap.size F w5:=((Qaa p3 z).alloc (by omega) _).grown y (by simp;omega) (fun q hq=>(p1.lt q hq).1)
   have aa:=af.alloc (.cells #[.slice E cs.length K] 33)
   have ae:Qbi w5 w.heap.size (us++[.slice E cs.length K]) cs:=fun u A=>by
    rw[List.mem_append] at A
    rcases A with A|A
    ·have h1:=(Qaf (p2 u A) z).alloc (.cells #[.slice E cs.length K] 33)
     exact h1.kept y (Qch (by decide) h1 q1)
    ·simp at A
     subst A
     exact Qam (by omega) (aa.kept y (Qch (by decide) aa q1))
   have HF:=Hk (Ai M (Ai ae U))
   clear M y ae U aa q1 p1 p2 p3
   clear j0 j1 j2 j3 j4 j5 j6 j7 j8 j9 aE ao aC aA ax
   go_wp2
   go_roundw
   case rel=>exact⟨k+1,_,by omega,by go_num,HF.out.1,HF.out.2.1,HF.out.2.2⟩
   case measure=>simp[intOf];omega
  ·have ap:k=o:=by omega
   subst ap
   clear D B J
   go_wp2
   go_ret2
   exact⟨_,us,rfl,Qam Z.out.size O.out.1,O.out.2.1,Z.out.trans (O.out.2.2.mono Z.out.size)⟩
theorem QdL (A K z B b o n c:Nat) (cs:List Cl) (j:Jb) (w:World) (h:j.code=1\/j.code=9) (T:0<z) (U:A<w.heap.size) (V:w.cell? ⟨A,K,none⟩=some (.slice (some ⟨b,o,none⟩) n c)) (F:cs.length=n) (E:n<=100) (I:b<w.heap.size) (J:Qas w b o cs) (O:j.right.2.2.2.size<=maxLen):
 Calls Tryz.prog 26 #[.agg j.cells,.slice (some ⟨A,K,none⟩) z B] w fun e w'=>e=.returned (Qbp (Qax cs j))/\Below w.heap.size w w':=by
 have y:=fun W (M:Below w.heap.size w W)=>Qgh b o n c cs j W F E (by have:=M.size;omega) (J.below M I) O
 unfold Jb.cells at y⊢
 generalize Qax cs j=r at*
 have D:=Hk y
 have htk':(0:Int)<(z:Int):=by omega
 clear y F J
 obtain⟨code,q⟩:∃k,j.code=k:=⟨_,rfl⟩
 rw[q] at D h⊢
 clear q
 rcases h with rfl|rfl
 all_goals
  go_enter Tryz.func26,Tryz.ntmps26
  go_wp2_with (go_at_call 45;refine(D.out _ (Qab _ _)).mono ?_;rintro e Z ⟨rfl,N⟩)
  go_ret
  exact⟨rfl,Qaa (Qab _ _) N⟩
theorem Qa4 (A K y B b o n c:Nat) (cs:List Cl) (j:Jb) (w:World) (h:j.code=1\/j.code=9\/j.code=2\/j.code=4\/j.code=5\/j.code=6) (T:0<y) (U:A<w.heap.size) (Z:w.cell? ⟨A,K,none⟩=some (.slice (some ⟨b,o,none⟩) n c)) (z:cs.length=n) (F:n<=100) (I:b<w.heap.size) (J:Qas w b o cs):
 Calls Tryz.prog 27 #[.agg j.cells,.slice (some ⟨A,K,none⟩) y B] w fun e w'=>∃u,e=.returned u/\w'.ownsRow w.heap.size 56 2 u cs.length (Qap cs)/\Below w.heap.size w w':=by
 have D:=fun W (M:Below w.heap.size w W)=>Qha b o n c cs W z F (by have:=M.size;omega) (J.below M I)
 rw[z]
 unfold Jb.cells
 have O:=Hk D
 have htk':(0:Int)<(y:Int):=by omega
 clear D z J
 obtain⟨code,q⟩:∃k,j.code=k:=⟨_,rfl⟩
 rw[q] at h⊢
 clear q
 rcases h with rfl|rfl|rfl|rfl|rfl|rfl
 all_goals
  go_enter Tryz.func27,Tryz.ntmps27
  go_wp2_with (go_at_call 55;refine(O.out _ (Qab _ _)).mono ?_;rintro e w1 ⟨V,rfl,E,N⟩)
  go_ret
  exact⟨_,rfl,Qam (by simp) E,Qaa (Qab _ _) N⟩
theorem Qac.set {w:World} {B R o:Nat} {v:Value} {us:List Value} {rs:List (List Vl)} (h:Qac w B us rs) (q:R<B):Qac (w.setCell ⟨R,o,none⟩ v) B us rs:=
 ⟨h.1,fun j hj hj'=>⟨ownsRow_setCell_below (h.2 j hj hj').1 q _,(h.2 j hj hj').2⟩⟩
theorem Qhe (y o tk tcap:Nat) (vc vr:Value) (cs:List Cl) (rs:List (List Vl)) (j:Jb) (w:World) (aa:j.code=1\/j.code=9) (aR:0<tk) (T:y<w.heap.size) (t0:w.cell? ⟨y,o,none⟩=some vc) (t1:w.cell? ⟨y,o+1,none⟩=some vr)
 (hc:Qav w vc cs) (hr:QaC w vr rs) (h1:1<=cs.length) (h6:cs.length<=100) (hl:∀r∈rs,r.length=cs.length) (ad:rs.length<=100) (z:Qb3 cs j.left) (ai:Qb3 cs j.right):
 Calls Tryz.prog 40 #[.agg j.cells,.slice (some ⟨y,o,none⟩) tk tcap] w fun e w'=>∃V v2 K I,e=.returned (.tuple #[V,v2,.nilIface])/\w'.ownsRow w.heap.size 57 1 V (rs.filter (QaH cs j)).length K/\Qac w' w.heap.size K (rs.filter (QaH cs j))/\w'.ownsRow w.heap.size 57 1 v2 (rs.filter (fun r=> !QaH cs j r)).length I/\Qac w' w.heap.size I (rs.filter (fun r=> !QaH cs j r))/\Below w.heap.size w w':=by
 have aT:=mkF
 have ak:=Hk (fun W (hW:Below w.heap.size w W)=>Qba vr rs cs.length W (hr.below hW) hl h1 h6 ad)
 have af:=Hk (fun v us B D W (hW:Below w.heap.size w W) O hH hB hj J E=>Qim v vc cs rs us j w.heap.size D B W O hH hB hj J E (hc.below hW) h6 hl ad z ai)
 have htk':(0:Int)<(tk:Int):=by omega
 clear hl z ai
 obtain⟨va,aj,rfl,-⟩:=hc
 obtain⟨ra,ax,rfl,-⟩:=hr
 have ae:Qaz (w.alloc (.cells j.cells 28)) w.heap.size j:=fun k v hk=>by rw[World.cell?_alloc_at _ _ _ _ rfl];exact hk
 have A:=Hk ae
 clear ae
 unfold Jb.cells at A⊢
 rcases aa with F|F
 all_goals
  rw[F] at A⊢
  have ay:=Hk F
  clear F
  go_enter Tryz.func40,Tryz.ntmps40
  go_wp2_with fail
  go_cut [7,8] (fun p v wx=>∃(D:Nat) (us:List Value),p=.pointer (some ⟨D,0,none⟩)/\wx.cell? ⟨D,0,none⟩=some (.slice va cs.length aj)/\D<wx.heap.size/\wx.ownsRow (w.heap.size+1) 57 1 v rs.length us/\Qac wx (w.heap.size+1) us rs/\Qaz wx w.heap.size j/\Below w.heap.size w wx)
  case first=>
   go_region_held3 (fun w'=>w'.cell? ⟨y,o,none⟩=some (.slice va cs.length aj)/\w'.cell? ⟨y,o+1,none⟩=some (.slice ra rs.length ax))
    (first|(go_keep;done)|exact⟨(World.cell?_setCell_other _ _ _ _ (by intro e;simp at e;try omega)).trans k0,(World.cell?_setCell_other _ _ _ _ (by intro e;simp at e;try omega)).trans k1⟩)
    (first|(go_at_call 63;refine(ak.out _ (by first|exact(Qab _ _).drew|exact(Qad (Qab _ _) _).drew)).mono ?_;rintro e U ⟨V,us,rfl,z,ag,q⟩;have h:=Qaa (show Below w.heap.size w _ from(by first|exact(Qab _ _).drew|exact(Qad (Qab _ _) _).drew)) q;have k0:=cK h T t0;have k1:=cK h T t1;have aS:y<U.heap.size:=Nat.lt_of_lt_of_le T h.size;(try(have kb:=(q.cell (p:=⟨w.heap.size+1,0,none⟩) (by simp)).trans (show _=some (Value.slice none 0 0) by simp);have kf:=(q.frozen (p:=⟨w.heap.size+1,0,none⟩) (by simp)).trans (show _=false by simp);have kz:w.heap.size+1<U.heap.size:=by(have:=q.size;simp at this;omega)))))
   all_goals go_wp2_with fail
   all_goals go_meet
   ·have N:Qaz U w.heap.size j:=fun k v hk=>(q.cell (p:=⟨w.heap.size,k,none⟩) (by simp)).trans (by simpa using A.out k v hk)
    exact⟨U.heap.size,us,rfl,by simp,by simp,(Qam (by simp) z).alloc _,(ag.mono (by simp)).below (Qab _ _),N.below (Qab _ _) (by have:=q.size;simp at this;omega),Qad h _⟩
   ·have N:Qaz U w.heap.size j:=fun k v hk=>(q.cell (p:=⟨w.heap.size,k,none⟩) (by simp;omega)).trans (by simpa using A.out k v hk)
    exact⟨w.heap.size+1,us,rfl,World.cell?_setCell_same _ _ _ kb,by simpa using kz,Qam (by simp) (ownsRow_setCell_below z (by simp) _),(Qac.set ag (by simp)).mono (by simp),fun k v hk=>(World.cell?_setCell_other _ _ _ _ (by intro e;simp at e)).trans (N k v hk),h.setCell (by show w.heap.size<=w.heap.size+1;omega) _⟩
  case rest=>
   obtain⟨D,us,rfl,J,E,O,hH,Z,M⟩:=hcut
   have ah:=M.size
   have az:=Hk (af.out u8 us (w.heap.size+1) D wc M O hH (by have:=Z.lt;omega) Z J E)
   have aB:=Z 1 (.int .i64 j.code) rfl
   rw[ay.out] at aB
   have HB:=Hk M
   obtain⟨xa,xc,rfl⟩:=Qae O
   clear M O hH Z J af ak A t0 t1
   go_wp2_with (go_at_call 64;refine az.out.mono ?_;rintro e w5 ⟨V,v2,K,I,rfl,o1,o2,o3,o4,aD⟩)
   go_ret3
   exact⟨_,_,K,I,rfl,Qam ah o1,o2.mono (by omega),Qam ah o3,o4.mono (by omega),Qaa HB.out aD⟩
theorem Tryz.infoTab:(Tryz.prog.info? 36).map (fun i=>(i.zero,i.size,i.bytes))=some (some (.agg #[.slice none 0 0,.slice none 0 0]),2,48):=by kernel_rfl
def QaA (w:World) (us:List Value) (css:List (List Cl)):Prop:=us.length=css.length/\∀(j:Nat) (h:j<css.length),∃u,us[j]? =some u/\Qav w u css[j]
theorem QaA.below {w o:World} {us:List Value} {css:List (List Cl)} (h:QaA w us css) (q:Below w.heap.size w o):QaA o us css:=
 ⟨h.1,fun j hj=>by obtain⟨u,y,z⟩:=h.2 j hj;exact⟨u,y,z.below q⟩⟩
theorem QaA.snoc {w:World} {us:List Value} {css:List (List Cl)} {u:Value} {cs:List Cl} (h:QaA w us css) (y:Qav w u cs):QaA w (us++[u]) (css++[cs]):=by
 refine⟨by simp[h.1],fun j hj=>?_⟩
 by_cases hlt:j<css.length
 ·obtain⟨x,q,z⟩:=h.2 j hlt
  refine⟨x,?_,?_⟩
  ·rw[List.getElem?_append_left (by rw[h.1];exact hlt)];exact q
  ·rw[List.getElem_append_left hlt];exact z
 ·have o:j=css.length:=by rw[List.length_append] at hj;simp at hj;omega
  subst o
  refine⟨u,by rw[<-h.1];simp,?_⟩
  simp only[List.getElem_append_right (Nat.le_refl _),Nat.sub_self,List.getElem_cons_zero]
  exact y
theorem QhT (J F tcap:Nat) (ts:List Tb) (j:Jb) (w:World) (T:Qa0 w J F ts) (V:J<w.heap.size) (hl:ts.length<=100) (K:∃t∈ts,Qan t.1 t.2=false):
 Calls Tryz.prog 14 #[.agg j.cells,.slice (some ⟨J,F,none⟩) ts.length tcap] w fun e w'=>e=.returned (.tuple #[.slice none 0 0,Qbp 1])/\Below w.heap.size w w':=by
 obtain⟨i0,hi,ak,ae,al⟩:=info_parts Tryz.infoCols
 have HB:=Hk K
 have HT:=Hk T
 clear K T
 unfold Jb.cells
 go_enter Tryz.func14,Tryz.ntmps14
 go_wp2
 go_loopw [6,16] (fun l i wr=>∃(k:Nat) (us:List Value),k<=ts.length/\i=.int .i64 k/\wr.ownsRow (w.heap.size+1) 33 1 l k us/\(∀q (h:q<ts.length),q<k->Qan ts[q].1 ts[q].2=true)/\Below w.heap.size w wr) (fun _ i _=>ts.length-(intOf i).toNat)
 case atStart=>exact⟨0,[],Nat.zero_le _,rfl,World.ownsRow_nil _ _ _ _,fun q _ h=>absurd h (by omega),Qab _ _⟩
 case round=>
  obtain⟨k,us,hk,rfl,B,A,o⟩:=hrel
  obtain⟨la,lc,rfl⟩:=Qae B
  have aD:=o.size
  have O:=Hk (Ai B (Ai A o))
  by_cases hlt:k<ts.length
  ·obtain⟨vc,vr,c0,c1,hc,hr⟩:=HT.out k hlt
   have d0:=cK o V c0
   have d1:=cK o V c1
   have z:=fun W (hW:Below wr.heap.size wr W)=>Qcr vc vr ts[k].1 ts[k].2 W ((hc.below o).below hW) ((hr.below o).below hW)
   obtain⟨ca,cc,rfl,-⟩:=hc
   obtain⟨ra,rc,rfl,-⟩:=hr
   cases g:Qan ts[k].1 ts[k].2
   ·simp only[g] at z
    have M:=Hk z
    clear z c0 c1 B A o g
    go_wp2_with (go_at_call 39;refine(M.out _ (Qab _ _)).mono ?_;rintro e Z ⟨rfl,y⟩)
    go_ret2
    exact⟨rfl,Qaa (Qad O.out.2.2 _) y⟩
   ·simp only[g] at z
    have M:=Hk z
    have HG:=Hk g
    clear z c0 c1 B A o g
    generalize aa:ts[k].1.length=n1 at*
    generalize ac:ts[k].2.length=n2 at*
    clear aa ac
    go_wp2_with (first|(go_at_call 39;refine(M.out _ (Qab _ _)).mono ?_;rintro e Z ⟨rfl,y⟩;obtain⟨ai,ad⟩:=QbM y;have aA:wr.heap.size<Z.heap.size:=by(have:=y.size;simp at this;omega))|(at_builtin;refine wpList_append_own _ rfl _ _ 31 rfl (w.heap.size+1) 33 i0 (.slice none 0 0) 1 24 Tryz.underlying31 hi ak ae al rfl (by decide) _ _ _ rfl ((Qaf (O.out.1.alloc _) y).alloc _) ⟨Z.heap.size,0,none⟩ 1 1 [.slice ca n1 cc] rfl rfl (QbG _ _ _ _ rfl) (QbZ _ _ _) ?c3 ?c4 ?c5 ?_))
    case c3=>unfold maxLen;omega
    case c4=>omega
    case c5=>have:=y.size;simp at this⊢;omega
    intro v' w5 E D _
    obtain⟨p1,p2,p3⟩:=O.out
    have I:Below w.heap.size w w5:=((Qaa (Qad p3 _) y).alloc (by omega) _).grown D (by simp;omega) (fun q N=>by have:=(p1.lt q N).1;omega)
    have HF:=Hk (Ai E I)
    clear E D I ai ad p1 p2 p3
    go_wp2
    go_roundw
    case rel=>
     refine⟨k+1,_,by omega,by go_num,HF.out.1,fun q h N=>?_,HF.out.2⟩
     rcases Nat.lt_or_ge q k with U|U
     ·exact O.out.2.1 q h U
     ·obtain rfl:q=k:=by omega
      exact HG.out
    case measure=>simp[intOf];omega
  ·exfalso
   obtain⟨t,T,hf⟩:=HB.out
   obtain⟨q,N,rfl⟩:=List.mem_iff_getElem.1 T
   have:=A q N (by omega)
   rw[this] at hf
   cases hf
end Go.Proofs.YtofidnijfnhpaaaGreatDoor
