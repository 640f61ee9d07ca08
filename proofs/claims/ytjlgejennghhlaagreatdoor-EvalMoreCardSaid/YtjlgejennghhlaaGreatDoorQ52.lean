import Derived.LaidSub
import Derived.Test.YtjlgejennghhlaaGreatDoorQ01
import Derived.Test.YtjlgejennghhlaaGreatDoorQ50
import Derived.Test.YtjlgejennghhlaaGreatDoorQ05
import Derived.Test.YtjlgejennghhlaaGreatDoorQ13
import Derived.Test.YtjlgejennghhlaaGreatDoorQ49
import Derived.Test.YtjlgejennghhlaaGreatDoorQ43
import Derived.Test.YtjlgejennghhlaaGreatDoorQ02
set_option linter.unusedSimpArgs false
set_option linter.unusedVariables false
set_option linter.unusedSectionVars false
set_option maxRecDepth 1000000
set_option maxHeartbeats 16000000
namespace Go.Proofs.YtjlgejennghhlaaGreatDoor
open Go.RowKit
def Qin (e:Ending) (w':World):Except (Int×Nat) (List Cl×List (List V3))->Prop
 |.ok (cs,rs)=>∃vc vr,e=.returned (.tuple #[.agg #[vc,vr],.nilIface])/\Qax w' vc cs/\Qcg w' vr (rs.map (·.map vl))
 |.error (x,p)=>∃N,e=.returned (.tuple #[.agg #[.slice none 0 0,.slice none 0 0],.iface 100 (.pointer (some ⟨N,0,none⟩))])/\N<w'.heap.size/\w'.cell? ⟨N,0,none⟩=some (.int .i64 x)/\w'.cell? ⟨N,1,none⟩=some (.int .i64 (p:Int))
theorem Qfe {h:World} {R N:Nat} {x:Int} {p:Nat} {u v:Value} (H:N<h.heap.size) (y:R<N) (F:h.cell? ⟨N,0,none⟩=some (.int .i64 x)) (D:h.cell? ⟨N,1,none⟩=some (.int .i64 (p:Int))):
 Qin (.returned (.tuple #[.agg #[.slice none 0 0,.slice none 0 0],.iface 100 (.pointer (some ⟨N,0,none⟩))])) ((h.setCell ⟨R,0,none⟩ u).setCell ⟨R,1,none⟩ v) (.error (x,p)):=Qfr H y F D
theorem Qio {w:World} {tb:Nat} {I:Value} {us:List Value} {acc:List (List V3)} (h:w.ownsRow (tb+1) 84 1 I acc.length us) (H:Qfq w (tb+1) us acc) (J:∀r∈acc,∀x∈r,x.2.2.length<=16):Qcg w I (acc.map (·.map vl)):=by
 have F:(acc.map (·.map vl)).length=acc.length:=List.length_map _;refine Pl.Ev.rowsC_of (B:=tb+1) (us:=us) (by rw[F];exact h) ⟨by rw[F];exact H.1,fun j hj hj'=>?_⟩;have D:j<acc.length:=by rw[<-F];exact hj'
 have:=H.2 j hj D;refine⟨by simpa using this,fun x hx=>?_⟩;rw[List.getElem_map] at hx;obtain⟨y,K,rfl⟩:=List.mem_map.1 hx;have:=J _ (List.getElem_mem D) y K;exact Nat.le_trans (show y.2.2.length<=16 from this) (by decide)
theorem Qld (s:ByteArray) (w:World) (hs:s.size<=100000) (hE:Env w):
 Calls Tryz.prog 18 #[.string s] w fun e w'=>Below w.heap.size w w'/\Qin e w' (Qhv s.data.toList):=by
 have HE:=Hk hE;clear hE;have aK:Env (w.alloc (.cells #[.slice none 0 0,.slice none 0 0] 54)):=HE.out.below (Qaa _ _);have a8:=Hk (Qfi s ⟨#[10]⟩ (w.alloc (.cells #[.slice none 0 0,.slice none 0 0] 54)) (by omega) aK);have bb:=Hk aK;clear aK;go_enter Tryz.func18,Tryz.ntmps18;go_wp2_with (first|(go_at_call 47;refine a8.out.mono ?_;rintro e w1 ⟨rfl,au⟩;obtain⟨aN,aW⟩:=QaP au)|(go_at_call 48;fail));have aX:=Qfl s.data.toList [10];have bh:s.data.toList.length=s.size:=by simp
 generalize hx:Lib.cut s.data.toList [10]=x at*;obtain⟨h,r,en⟩:=x;have HX:=Hk (Qfs hx);have cj:h.length<=100000:=by have:=aX.1;simp only at this;omega
 have cr:r.length<=s.size:=by have:=aX.2;simp only at this;omega
 have bT:=Hk bh;clear hx aX bh a8;have aU:=Hk (bb.out.below au);have hR:w.heap.size<w1.heap.size:=by have:=au.size;simp at this;omega
 have q0:w1.cell? ⟨w.heap.size,0,none⟩=some (.slice none 0 0):=(aN _ _ (by simp)).trans (by simp);have q1:w1.cell? ⟨w.heap.size,1,none⟩=some (.slice none 0 0):=(aN _ _ (by simp)).trans (by simp);have z0:w1.frozen? ⟨w.heap.size,0,none⟩=false:=(aW _ _ (by simp)).trans (by simp);have z1:w1.frozen? ⟨w.heap.size,1,none⟩=false:=(aW _ _ (by simp)).trans (by simp);have b1:Below w.heap.size w w1:=(Qaa w _).trans (au.mono (by simp));have aT:=Hk b1;clear aN aW au b1;refine(QdP ⟨h.toArray⟩ w1 (by simp[ByteArray.size];omega) aU.out).mono ?_;rintro e F ⟨ah,ap⟩;unfold Qfm at ap;obtain⟨ac,aB⟩:=QaP ah;have s2:=ah.size;have M:w.heap.size<F.heap.size:=by omega
 by_cases g:Qai (colsOf ⟨h.toArray⟩)=true
 ·rw[if_pos g] at ap;obtain⟨vc,rfl,ak,aR⟩:=ap;have aa:=HX.out;rw[if_pos g] at aa;have ad:=Hk aa;have aI:=Qbq g;clear HX aa;generalize colsOf ⟨h.toArray⟩=cs at*;have aV:=Qbl ak aR;obtain⟨-,ch|⟨g1,am,ay,rfl,cq,bz,b3,-⟩⟩:=id ak
  ·omega
  ·have bd:=(ak.lt g1 rfl).2;have aC:Qau F g1 0 cs:=by
    obtain⟨a,c,e1,-,-,hh⟩:=aV;rcases hh with hh|⟨b,o,e2,hl,aC⟩
    ·rw[hh] at aI;simp at aI
    ·rw[e2] at e1;simp only[Value.slice.injEq,Option.some.injEq,Addr.mk.injEq,and_true,true_and] at e1;obtain⟨⟨rfl,rfl⟩,-⟩:=e1;exact aC
   have be:=Hk ak;have bf:=Hk aC;have bJ:=Hk aR;clear ak aC aR aV bz ay;have q0':=(ac _ 0 hR).trans q0;have q1':=(ac _ 1 hR).trans q1;have z0':=(aB _ 0 hR).trans z0;have z1':=(aB _ 1 hR).trans z1;have hb2':=Hk ah;clear ac aB ah q0 q1 z0 z1;go_wp2;obtain⟨W,hW⟩:∃W,W=F.alloc (.cells #[.slice (some ⟨g1,0,none⟩) cs.length am,.slice none 0 0] 54):=⟨_,rfl⟩;rw[<-hW];have H:Below F.heap.size F W:=by rw[hW];exact Qaa _ _
   have bi:Qgl W W F.heap.size (.slice (some ⟨g1,0,none⟩) cs.length am) (.slice none 0 0) [] []:=by
    rw[hW];exact⟨by simp,by simp,by simp,by simp,World.ownsRow_nil _ _ _ _,⟨rfl,fun j hj=>absurd hj (by simp)⟩,by simp,Below.refl _ _⟩
   have bV:=Hk (bel_then (bel_then aT.out hb2'.out) H);have cu:=Hk ((aU.out.below hb2'.out).below H);have bm:=Hk (bf.out.below H bd);have bw:=Hk (owns_below be.out H);have y0:=cK H M q0';have y1:=cK H M q1';have x0:=(H.frozen (p:=⟨w.heap.size,0,none⟩) M).trans z0';have x1:=(H.frozen (p:=⟨w.heap.size,1,none⟩) M).trans z1';have Y0:=Hk y0;have Y1:=Hk y1;have X0:=Hk x0;have X1:=Hk x1;clear y0 y1 x0 x1 q0' q1' z0' z1' hW hb2' bb aU aT be bf;obtain⟨i0,hi,bE,bU,bL⟩:=info_parts Tryz.infoRow;have bS:=Hk bi;clear bi H;go_loopw [5,6] (fun rv mv wr=>∃(rest:List UInt8) (az:Bool) (acc:List (List V3)) (us:List Value) (vr:Value) (f:Nat),rv=.string ⟨rest.toArray⟩/\mv=.bool az/\rest.length<f/\rest.length<=100000/\acc.length<=60/\QaL cs (s.data.toList.length+1) [] r en=QaL cs f acc rest az/\Qgl wr W F.heap.size (.slice (some ⟨g1,0,none⟩) cs.length am) vr us acc) (fun rv _ _=>Qje rv)
   case atStart=>exact⟨r,en,[],[],_,s.data.toList.length+1,rfl,rfl,by have:=bT.out;omega,by omega,by simp,rfl,bS.out⟩
   case round=>
    obtain⟨rest,az,acc,us,vr,f,rfl,rfl,hf,cf,cm,aL,aO⟩:=hrel;obtain⟨f,rfl⟩:∃f',f=f'+1:=⟨f-1,by omega⟩;have HM:=Hk aO;have U:=Hk aL;obtain⟨m1,m2,m3,m4,m5,-,-,m8⟩:=aO;obtain⟨va,av,rfl⟩:∃a c,vr=.slice a acc.length c:=by
     obtain⟨-,⟨rfl,hn⟩|⟨g,cp,ay,rfl,-⟩⟩:=m5
     ·exact⟨none,0,by rw[hn]⟩
     ·exact⟨_,_,rfl⟩
    have aQ:=Hk m5;have M8:=Hk m8;clear aL m5 m8;have r0:=cK M8.out M Y0.out;have r1:=cK M8.out M Y1.out;have ct:=(M8.out.frozen (p:=⟨w.heap.size,0,none⟩) M).trans X0.out;have cv:=(M8.out.frozen (p:=⟨w.heap.size,1,none⟩) M).trans X1.out;have ab:w.heap.size<wr.heap.size:=by omega
    have a9:Below w.heap.size w wr:=bV.out.trans (M8.out.mono (by omega));have aj:=Hk a9;clear a9
    cases az
    ·go_wp2_with (go_at_call 49;refine(wrong_any _ _ _).mono ?_;rintro e w3 ⟨rfl,hw,V,O,D⟩;obtain⟨y,J⟩:=QaP D);have c0:=(y w.heap.size 0 ab).trans r0;have c1:=(y w.heap.size 1 ab).trans r1;clear y J;refine bodyPost_ret (v:=.tuple #[.agg #[.slice none 0 0,.slice none 0 0],.iface 100 (.pointer (some ⟨wr.heap.size+1,0,none⟩))]) (by simp[results,Tryz.results18,go_sem,c0,c1]) rfl ⟨?_,?_⟩
     ·exact((bel_then aj.out D).setCell (Nat.le_refl _) _).setCell (Nat.le_refl _) _
     ·rw[ad.out,U.out,Qhx];exact Qfe (p:=1+acc.length) hw (by omega) V (by rw[Int.natCast_add];exact O)
    ·by_cases hre:rest=[]
     ·subst hre;go_wp2;refine bodyPost_ret (v:=.tuple #[.agg #[.slice (some ⟨g1,0,none⟩) cs.length am,.slice va acc.length av],.nilIface]) (by simp[results,Tryz.results18,go_sem,r0,r1]) rfl ⟨?_,?_⟩
      ·exact(aj.out.setCell (Nat.le_refl _) _).setCell (Nat.le_refl _) _
      ·rw[ad.out,U.out,Qft];obtain⟨-,-,-,-,m5,m6,m7,m8⟩:=HM.out;refine⟨_,_,rfl,?_,?_⟩
       ·refine Qbl (base:=w1.heap.size) ?_ bJ.out;refine ownsRow_setCell_below (ownsRow_setCell_below (Qgm bw.out m8 (fun k hk=>?_)) (by exact hR) _) (by exact hR) _;simp only[Value.ownBlock,Option.some.injEq] at hk;omega
       ·exact Qio (tb:=F.heap.size) (ownsRow_setCell_below (ownsRow_setCell_below m5 (by show w.heap.size<_;omega) _) (by show w.heap.size<_;omega) _) (Qe2 (Qe2 m6 (by omega)) (by omega)) m7
     ·have ck:rest.isEmpty=false:=by cases rest<;>simp_all
      have cn:=Qfl rest [10];have aP:=Hk (Qjf rest hre);have aS:Hid (Calls Tryz.prog 47 #[.string ⟨rest.toArray⟩,.string ⟨#[10]⟩] wr fun e w'=>e=.returned (.tuple #[.string ⟨(Lib.cut rest [10]).1.toArray⟩,.string ⟨(Lib.cut rest [10]).2.1.toArray⟩,.bool (Lib.cut rest [10]).2.2])/\Below wr.heap.size wr w'):=Qfi ⟨rest.toArray⟩ ⟨#[10]⟩ wr (by simp[ByteArray.size];omega) (HE.out.below aj.out);go_wp2_with (first|(go_at_call 47;refine aS.out.mono ?_;rintro e w3 ⟨rfl,D⟩;obtain⟨y,J⟩:=QaP D)|(go_at_call 50;fail));have bG:g1<w3.heap.size:=by have:=D.size;omega
      have a7:=Hk (Qfp ⟨(Lib.cut rest [10]).1.toArray⟩ g1 0 cs.length am cs w3 (by simp[ByteArray.size];omega) ((HE.out.below aj.out).below D) rfl (by omega) bG ((bm.out.below M8.out bd).below D (by omega)));refine a7.out.mono ?_;rintro e w4 ⟨ae,I⟩;clear a7 aS;obtain⟨K,aA⟩:=QaP ae;have ax:w.heap.size<w3.heap.size:=by have:=D.size;omega
      have aD:w.heap.size<w4.heap.size:=by have:=ae.size;omega
      have bj:F.heap.size<w3.heap.size:=by have:=D.size;omega
      have bk:F.heap.size<w4.heap.size:=by have:=ae.size;omega
      have b4:=Hk (bel_then (bel_then aj.out D) ae);rw[show(ByteArray.mk (Lib.cut rest [10]).1.toArray).data.toList=(Lib.cut rest [10]).1 from rfl] at I
      cases hrow:QaU cs (Lib.cut rest [10]).1 false with
      |none=>
       rw[hrow] at I;have bs:e=_:=I;subst bs;have af:=Hk hrow;clear I hrow;go_wp2_with (go_at_call 49;refine(wrong_any _ _ _).mono ?_;rintro e w5 ⟨rfl,hw,V,O,ao⟩;obtain⟨Z,aM⟩:=QaP ao);have c0:=(Z w.heap.size 0 aD).trans ((K _ _ ax).trans ((y _ _ ab).trans r0));have c1:=(Z w.heap.size 1 aD).trans ((K _ _ ax).trans ((y _ _ ab).trans r1));clear y J K aA Z aM;refine bodyPost_ret (v:=.tuple #[.agg #[.slice none 0 0,.slice none 0 0],.iface 100 (.pointer (some ⟨w4.heap.size+1,0,none⟩))]) (by simp[results,Tryz.results18,go_sem,c0,c1]) rfl ⟨?_,?_⟩
       ·exact((bel_then b4.out ao).setCell (Nat.le_refl _) _).setCell (Nat.le_refl _) _
       ·rw[ad.out,U.out,Qhw hre af.out];exact Qfe (p:=1+acc.length) hw (by omega) V (by rw[Int.natCast_add];exact O)
      |some row=>
       rw[hrow] at I;obtain⟨u,rfl,hu,bP⟩:=I;obtain⟨ua,bv,bW⟩:∃a c,u=.slice a row.length c:=by
        obtain⟨-,⟨rfl,hn⟩|⟨g,cp,ay,rfl,-⟩⟩:=hu
        ·exact⟨none,0,by rw[hn]⟩
        ·exact⟨_,_,rfl⟩
       subst bW;have af:=Hk hrow;have HU:=Hk hu;clear hrow hu
       by_cases h60':acc.length=60
       ·have bK:((acc.length:Int)==60)=true:=by simp;omega
        go_wp2_with (go_at_call 49;refine(wrong_any _ _ _).mono ?_;rintro e w5 ⟨rfl,hw,V,O,ao⟩;obtain⟨Z,aM⟩:=QaP ao);have c0:=(Z w.heap.size 0 aD).trans ((K _ _ ax).trans ((y _ _ ab).trans r0));have c1:=(Z w.heap.size 1 aD).trans ((K _ _ ax).trans ((y _ _ ab).trans r1));clear y J K aA Z aM;refine bodyPost_ret (v:=.tuple #[.agg #[.slice none 0 0,.slice none 0 0],.iface 100 (.pointer (some ⟨w4.heap.size+1,0,none⟩))]) (by simp[results,Tryz.results18,go_sem,c0,c1]) rfl ⟨?_,?_⟩
        ·exact((bel_then b4.out ao).setCell (Nat.le_refl _) _).setCell (Nat.le_refl _) _
        ·rw[ad.out,U.out,Qgn hre af.out h60'];exact Qfe (p:=1+acc.length) hw (by omega) V (by rw[h60'];exact O)
       ·have bK:((acc.length:Int)==60)=false:=by simp;omega
        have a0:=Hk (Qcx (f:=f) hre af.out h60');go_wp2_with (at_builtin;refine wpList_append_own _ rfl _ _ 52 rfl (F.heap.size+1) 84 i0 (.slice none 0 0) 1 24 Tryz.underlying52 hi bE bU bL rfl (by decide) _ _ _ rfl ((owns_below (owns_below aQ.out D) ae).alloc _) ⟨w4.heap.size,0,none⟩ 1 1 [.slice ua row.length bv] rfl rfl ?c1 ?c2 ?c3 ?c4 ?c5 ?_)
        case c1=>
         intro j u hj
         match j,hj with
         |0,hj=>simp at hj;subst hj;simp[Addr.add]
        case c2=>intro u hu;simp at hu;subst hu;rfl
        case c3=>unfold maxLen;omega
        case c4=>omega
        case c5=>simp;omega
        ·intro v' w5 ag N _;have bg:=Qjd HM.out D ae HU.out bP _ ag N;obtain⟨co,bZ,rfl⟩:∃a c,v'=.slice a (acc.length+1) c:=by
          obtain⟨-,⟨rfl,hn⟩|⟨g,cp,ay,rfl,-⟩⟩:=ag
          ·omega
          ·exact⟨_,_,rfl⟩
         have bY:=Hk bg;have a6:some F.heap.size≠(Value.slice va acc.length av).ownBlock:=fun e=>by have:=(aQ.out.lt _ e.symm).1;omega
         have t1:w5.cell? ⟨F.heap.size,1,none⟩=some (.slice va acc.length av):=N.cell (a:=⟨F.heap.size,1,none⟩) (by rw[World.cell?_alloc_past _ _ _ bk];exact(K _ _ bj).trans ((y _ _ m1).trans m3)) a6;have t2:w5.frozen? ⟨F.heap.size,1,none⟩=false:=by
          rw[World.frozen?_of_block (w:=w4.alloc _) (w':=w5) (a:=⟨F.heap.size,1,none⟩) (N.block F.heap.size (by simp;omega) a6)];rw[World.frozen?_of_block (w:=w4) (w':=w4.alloc _) (a:=⟨F.heap.size,1,none⟩) (Below.heap_alloc _ _ _ bk)];exact(aA _ _ bj).trans ((J _ _ m1).trans m4)
         clear bg ag N y J K aA;go_wp2;go_roundw
         case rel=>exact⟨(Lib.cut rest [10]).2.1,(Lib.cut rest [10]).2.2,acc++[row],_,_,f,rfl,rfl,by have:=aP.out;omega,by have:=aP.out;omega,by simp;omega,by rw[U.out,a0.out],bY.out⟩
         case measure=>have:=aP.out;simpa [Qje,ByteArray.size] using this
 ·rw[if_neg g] at ap;subst ap;have aa:=HX.out;rw[if_neg g] at aa;have ad:=Hk aa;clear HX aa;go_wp2_with (go_at_call 49;refine(wrong_any _ _ _).mono ?_;rintro e w3 ⟨rfl,hw,V,O,D⟩;obtain⟨y,J⟩:=QaP D);have c0:=(y w.heap.size 0 (by omega)).trans ((ac _ _ hR).trans q0);have c1:=(y w.heap.size 1 (by omega)).trans ((ac _ _ hR).trans q1);clear y J ac aB;refine bodyPost_ret (v:=.tuple #[.agg #[.slice none 0 0,.slice none 0 0],.iface 100 (.pointer (some ⟨F.heap.size+1,0,none⟩))]) (by simp[results,Tryz.results18,go_sem,c0,c1]) rfl ⟨?_,?_⟩
  ·exact((bel_then (bel_then aT.out ah) D).setCell (Nat.le_refl _) _).setCell (Nat.le_refl _) _
  ·rw[ad.out];exact Qfe hw (by omega) V O
end Go.Proofs.YtjlgejennghhlaaGreatDoor
namespace Go.Proofs.YtjlgejennghhlaaGreatDoor.Pl.Ev
open Go.RowKit Go.Maps
open Fw (By FJob Flw ba)
def es1:By:=[105,110,32,112,58,32,105,100,32,105,110,116,59,32,106,111,98,32,97,32,61,32,102,105,108,116,101,114,32,112,32,119,104,101,114,101,32,105,100,32,62,32,49,59,32,111,117,116,32,114,32,61,32,97,59]
def ej1:FJob:=⟨14,1,[[97]],[[112]],[],[62],([105,100],0,0,[]),([],1,1,[]),0⟩
def ef1:Flw:=⟨[⟨0,[112],[([105,100],1)]⟩],[ej1],[⟨45,[114],[97]⟩]⟩
theorem Qno:Fw.parseF es1=.ok ef1:=by kernel_rfl
def esT:ByteArray:=⟨#[105,100,58,105,110,116,10,49,10,50,10,51,10]⟩
def ecs:List Cl:=[(⟨#[105,100]⟩,1)]
def Qrs:List (List V3):=[[(1,1,[])],[(1,2,[])],[(1,3,[])]]
def eT:Tb:=(ecs,Qrs.map (·.map vl))
theorem QqM:Lib.itoa 3=[51]:=by
 unfold Lib.itoa;rw[if_neg (by decide)];exact Lib.decDigits_one (i:=3) (by decide)
theorem Qrt:Qbi [51]=some (1,3,[]):=by
 have h:Qc8 [51]=(1,3,[]):=by kernel_rfl
 rw[Qgj h];simp only[Qb1,if_true,QqM];decide
theorem Qru:QaU ecs [49] false=some [(1,1,[])]:=by
 have h:cutV false [49]=([49],[],false):=by decide
 simp[ecs,QaU,h,Qra]
theorem Qrv:QaU ecs [50] false=some [(1,2,[])]:=by
 have h:cutV false [50]=([50],[],false):=by decide
 simp[ecs,QaU,h,Qrb]
theorem Qrw:QaU ecs [51] false=some [(1,3,[])]:=by
 have h:cutV false [51]=([51],[],false):=by decide
 simp[ecs,QaU,h,Qrt]
theorem Qrx:Lib.cut esT.data.toList [10]=([105,100,58,105,110,116],[49,10,50,10,51,10],true):=by decide+kernel
theorem QqN:Lib.cut [49,10,50,10,51,10] [10]=([49],[50,10,51,10],true):=by decide+kernel
theorem QqO:Lib.cut [50,10,51,10] [10]=([50],[51,10],true):=by decide+kernel
theorem QqP:Lib.cut [51,10] [10]=([51],[],true):=by decide+kernel
theorem Qry:Go.Proofs.YtjlgejennghhlaaGreatDoor.colsOf ⟨[105,100,58,105,110,116].toArray⟩=ecs:=by kernel_rfl
theorem QqQ:Qai ecs=true:=by kernel_rfl
theorem Qp4:Qhv esT.data.toList=.ok (ecs,Qrs):=by
 rw[Qfs Qrx,Qry,if_pos QqQ];rw[show esT.data.toList.length+1=14 from rfl];rw[Qcx (f:=13) (by simp) (by rw[QqN];exact Qru) (by simp),QqN];rw[Qcx (f:=12) (by simp) (by rw[QqO];exact Qrv) (by simp),QqO];rw[Qcx (f:=11) (by simp) (by rw[QqP];exact Qrw) (by simp),QqP];rw[Qft];rfl
theorem Qp5:Qae eT.1 eT.2=true:=by kernel_rfl
theorem Qrz:Fine ef1:=by
 refine⟨fun i hi=>?_,by simp[Qaw,ef1,ej1],?_,by simp[ef1,Qaw,ej1],by simp[ef1]⟩
 ·simp[ef1] at hi;subst hi
  kernel_rfl
 ·intro j h n y;simp[ef1] at h;subst h;simp[ej1] at y;subst y;simp[Qaw,ef1]
theorem QrZ:QjQ ef1=some [0]:=by kernel_rfl
theorem QqR:Qbg ej1 [ecs]=0:=by kernel_rfl
theorem QqS:colsO Qbg Qa9 ef1 [0]=some ([([112],ecs)]++[([97],Qa9 ej1 [ecs])]):=by
 show runM Qbg Qa9 [ej1] [([112],ecs)]=_
 unfold runM;rw[show inC [([112],ecs)] ej1=[ecs] from rfl,if_pos QqR];rfl
theorem QqT:Qa7 ef1 [0] ([([112],ecs)]++[([97],Qa9 ej1 [ecs])]):=⟨Qrz,QrZ,QqS⟩
def eM:TM:=[([112],eT)]
def eF:Tb:=(ecs,eT.2.filter (Qbm ecs (jb0 ej1)))
theorem Qr0:QcL (Qbh eM) ef1.ins []=.ok eM:=by
 show QcL (Qbh eM) [⟨0,[112],[([105,100],1)]⟩] []=_
 unfold QcL;rw[show Qbh eM [112]=some eT from rfl];simp only;rw[if_pos ⟨rfl,Qp5⟩];rfl
theorem Qr1:doE ej1 [eT]=0:=by simp[doE,ej1]
theorem Qr2:doN ej1 [eT] [97]=eF:=by
 have h:doC ej1 [eT]=[eF]:=by simp[doC,ej1,eF,eT]
 unfold doN;rw[h];rfl
theorem QrK:Qik ef1 [0] (Qbh eM)=.ok (eM++[([97],eF)]):=by
 unfold Qik;rw[Qr0];simp only;unfold runN;rw[show ef1.jobs[0]? =some ej1 from rfl];simp only;rw[show inT eM ej1=[eT] from rfl,if_pos Qr1];rw[show(ej1.outs.map fun n=>(n,doN ej1 [eT] n))=[([97],doN ej1 [eT] [97])] from rfl,Qr2];rfl
theorem QrA:Qb0 ef1 (eM++[([97],eF)])=[([114],eF)]:=by rfl
theorem Qr3:eF.2.length=2:=by kernel_rfl
theorem Qhb (w:World) (hE:Fw.FEnv w) (aJ:GErr w) (aF:Env w):
 Calls Tryz.prog 6 #[] w fun e w'=>e=.returned (.bool true)/\Below w.heap.size w w':=by
 have HP:=Hk (Fw.parse_any es1 w (by decide) hE);have a9:(ba es1)=⟨#[105,110,32,112,58,32,105,100,32,105,110,116,59,32,106,111,98,32,97,32,61,32,102,105,108,116,101,114,32,112,32,119,104,101,114,101,32,105,100,32,62,32,49,59,32,111,117,116,32,114,32,61,32,97,59]⟩:=rfl;have HE:=Hk (Ai hE (Ai aJ aF));rw[a9] at HP;clear hE aJ aF;go_enter Tryz.func6,Tryz.ntmps6;go_wp2_with (first|(go_at_call 17;fail));refine HP.out.mono ?_;rintro e1 w1 ⟨⟨f,vi,vj,vo,H,rfl,K⟩|⟨er,b,H,rfl,-⟩,aZ⟩
 ·rw[Qno] at H;obtain rfl:ef1=f:=by injection H
  have aI:=Hk (Fw.FlowRd.of K);obtain⟨ia,ic,rfl⟩:=row_slice (Fw.FlowRd.of K).ins;obtain⟨ja,jc,rfl⟩:=row_slice (Fw.FlowRd.of K).jobs;obtain⟨oa,oc,rfl⟩:=row_slice (Fw.FlowRd.of K).outs;have ax:=Fw.parse_ok (l:=es1) (by decide) Qno;have a1:=Hk ax;obtain⟨w2,ai⟩:∃x,w1.alloc (.cells #[.slice ia ef1.ins.length ic,.slice ja ef1.jobs.length jc,.slice oa ef1.outs.length oc] 29)=x:=⟨_,rfl⟩;have N:Below w1.heap.size w1 w2:=by rw[<-ai];exact Qaa _ _
  have aK:Fw.Box w2 w1.heap.size [.slice ia ef1.ins.length ic,.slice ja ef1.jobs.length jc,.slice oa ef1.outs.length oc]:=by rw[<-ai];exact Fw.Box.new w1 _ _ _ rfl
  have aX:=Hk aK;have aQ:=Hk (bel_then aZ N);have aj:=Hk (aI.out.below N);have ao:=Hk (Qld esT w2 (by decide) (HE.out.2.2.below aQ.out));rw[Qp4] at ao;have aM:esT=⟨#[105,100,58,105,110,116,10,49,10,50,10,51,10]⟩:=rfl;rw[aM] at ao;obtain⟨n1,ag⟩:∃n,ef1.ins.length=n:=⟨_,rfl⟩;obtain⟨n2,ay⟩:∃n,ef1.jobs.length=n:=⟨_,rfl⟩;obtain⟨n3,al⟩:∃n,ef1.outs.length=n:=⟨_,rfl⟩;rw[ag,ay,al] at ai aX aj aI;rw[ag,ay,al];clear K H aZ N aK ax aM ag ay al;go_wp2_with (first|(go_at_call 18;fail));refine ao.out.mono ?_;rintro e3 w3 ⟨aS,D,y,rfl,hc,hr⟩;have aN:Hid (QgI w3 (.agg #[D,y]) eT):=Hk ⟨D,y,rfl,hc,hr⟩;obtain⟨h,aD⟩:∃x,w3.alloc (.cells #[D,y] 54)=x:=⟨_,rfl⟩;have U:Below w3.heap.size w3 h:=by rw[<-aD];exact Qaa _ _
  have aP:Fw.Box h w3.heap.size [D,y]:=by rw[<-aD];exact Fw.Box.new w3 _ _ _ rfl
  have J:Below w2.heap.size w2 h:=bel_then aS U;obtain⟨w5,aR⟩:∃x,h.alloc (.map #[] 0)=x:=⟨_,rfl⟩;have F:Below h.heap.size h w5:=by rw[<-aR];exact Qaa _ _
  have am:MapC w5 h.heap.size []:=by rw[<-aR];exact MapC.made h
  obtain⟨M,aO,ab,ar,-⟩:=Qfb am (n:=[112]) (by simp) (by decide) (by decide) (.agg #[D,y]);have aO:(Instr.mapUpdate 22 (.map (some h.heap.size)) (.string ⟨#[112]⟩) (.agg #[D,y])).run Tryz.prog w5=.ok () M:=aO;have aL:Stay w5 M:=Stay.put am.obj ar;have Z:Below h.heap.size h M:=F.grown ar F.size (fun q hq=>by injection hq with hq;omega);have aa:=Hk (bel_then aQ.out (bel_then J Z));have I:=(aX.out.below J);have g0:=I.cell 0 (v:=.slice ia n1 ic) rfl;have g1:=I.cell 1 (v:=.slice ja n2 jc) rfl;have g2:=I.cell 2 (v:=.slice oa n3 oc) rfl;have ap:=aP.below F;have q0:=ap.cell 0 (v:=D) rfl;have q1:=ap.cell 1 (v:=y) rfl;have av:QgI M (.agg #[D,y]) eT:=((aN.out.below U).below F).stay aL;have ab:MapC M h.heap.size [([112],.agg #[D,y])]:=ab;obtain⟨aG,ah⟩:=GivM.of (m:=eM) ab (show QaT M [([112],.agg #[D,y])] eM from⟨⟨rfl,av⟩,trivial⟩);have az:=Hk (Qm9 ef1 [0] _ _ _ _ (.map (some h.heap.size)) _ M (aj.out.below (bel_then J Z)) a1.out (cell_below HE.out.2.1 aa.out) QqT (HE.out.2.2.below aa.out) aG (fun n u t e=>by
   have h2:=ah n;rw[e] at h2
   by_cases hn:n∈keysT eM
   ·obtain⟨x,hx,-,e2⟩:=Qdu hn;simp[eM] at hx;subst hx;rw[e2] at h2;have:t=eT:=Option.some.inj h2;rw[this];decide
   ·rw[QeC hn] at h2;cases h2))
  rw[show(fun n=>(Qm5 [([112],.agg #[D,y])] eM n).map (·.2))=Qbh eM from funext ah] at az;have bw:∀V:World,(Instr.makeMap 22 none).run Tryz.prog V=.ok (.map (some V.heap.size)) (V.alloc (.map #[] 0)):=fun V=>by kernel_rfl
  obtain⟨ca,cc,rfl,-⟩:=hc;obtain⟨ra,rc,rfl,-⟩:=hr;clear aS U aP J F am ab ar aL Z I ap av aG ah aN;generalize ecs.length=tn at*;generalize (Qrs.map (·.map vl)).length=tm at*;have bq:∀(u v:Value) (V:World),(Instr.field 54 (.agg #[u,v]) 1).run Tryz.prog V=.ok v V:=fun u v V=>by kernel_rfl
  go_wp2_with (first|(go_at_call 9;fail));refine az.out.mono ?_;rintro e7 w7 ⟨aY,⟨n,k,au,-⟩|⟨m,A,b,aH,rfl,bd,aU,ac,-⟩⟩
  ·rw[QrK] at au;cases au
  ·obtain rfl:=Except.ok.inj (QrK.symm.trans aH);rw[QrA] at ac;have aV:A.length=1:=by rw[ac.len];rfl
   obtain⟨w8,aT⟩:∃x,w7.alloc (.cells #[.int .i64 0,.int .i64 (-1)] 39)=x:=⟨_,rfl⟩;have O:Below w7.heap.size w7 w8:=by rw[<-aT];exact Qaa _ _
   have ak:=aU.below O;have bp:∀ty,(Builtin.len_ #[22] ty #[.map (some b)]).run Tryz.prog w8=.ok (.int .i64 1) w8:=fun ty=>by
    have:=Qfc ak ty;rwa[aV] at this
   obtain⟨u,t,aW,aE,⟨bk,bm,rfl,bi,bh⟩,-⟩:=ac.look (n:=[114]) (by simp[keysT]);have af:=Qeg ak [114] (by decide) false;rw[aW] at af;have be:(Instr.lookup 22 (.map (some b)) (.string ⟨#[114]⟩) false).run Tryz.prog w8=.ok (.agg #[bk,bm]) w8:=af;clear af;have ht:t=eF:=(Option.some.inj aE).symm;obtain⟨bx,bv,rfl,-⟩:=bh;rw[ht,Qr3] at be;have z0:w8.cell? ⟨w7.heap.size,0,none⟩=some (.int .i64 0):=by rw[<-aT];exact World.cell?_alloc_at _ _ _ _ rfl
   have bj:=Hk (aa.out.trans ((bel_then aY O).mono aa.out.size));clear aY aH bd aU ac aV O ak aW aE bi ht;go_wp2;go_ret;exact⟨rfl,bj.out⟩
 ·rw[Qno] at H;cases H
end Go.Proofs.YtjlgejennghhlaaGreatDoor.Pl.Ev
namespace Go.Proofs.YtjlgejennghhlaaGreatDoor
open Go.ChangeShapes Go.WideShapes Go.ChangeAt Go.RowKit
abbrev laidG:List (String×DataW Unit):=[("math/bits.deBruijn32tab",Rows.laid_math_bits_deBruijn32tab),("math/bits.deBruijn64tab",Rows.laid_math_bits_deBruijn64tab),("internal/strconv.uint64pow10",Rows.laid_internal_strconv_uint64pow10),("unicode/utf8.acceptRanges",Rows.laid_unicode_utf8_acceptRanges),("strconv.ErrRange",Rows.laid_strconv_ErrRange),("strconv.ErrSyntax",Rows.laid_strconv_ErrSyntax),("foreman/table.kindWords",Rows.laid_foreman_table_kindWords),("foreman/flow.verbs",Rows.laid_foreman_flow_verbs),("foreman/flow.kinds",Rows.laid_foreman_flow_kinds),("foreman/flow.marks",Rows.laid_foreman_flow_marks),("unicode/utf8.first",Rows.laid_unicode_utf8_first)]
theorem Qo4 {W:World} (h:laidMet Tryz.prog laidG W):laidMet Tryz.prog Fw.laidF W:=
 Go.laidMet.filter (fun x=> !(x.1== "unicode/utf8.acceptRanges"||x.1== "foreman/table.kindWords"||x.1== "unicode/utf8.first")) h
theorem Qq2:Tryz.prog.globalNamed "foreman/table.kindWords"=some 2:=by kernel_rfl
theorem Qq3:(Tryz.prog.globals[2]?).map (·.type)=some 194:=by kernel_rfl
theorem QrL:Tryz.prog.globalNamed "internal/strconv.uint64pow10"=some 10:=by kernel_rfl
theorem Qr5:(Tryz.prog.globals[10]?).map (·.type)=some 303:=by kernel_rfl
theorem Qq4: "*"++ "errors.errorString"= "*errors.errorString":=by decide
theorem QrM (u:TypeId) (h:Tryz.prog.typeName? 3 u=some "*errors.errorString"):u=294:=
 typeName_ptr_named (nm:= "errors.errorString") (by rw[Qq4];kernel_rfl) (by kernel_rfl) (by decide) u (by rw[Qq4];exact h)
theorem Qo5:Tryz.prog.cellsOf 9=1:=by kernel_rfl
theorem Qq5 {W:World} (O:laidMet Tryz.prog laidG W) (am:W.ShapedOpen Tryz.prog):Env W:=by
 have U:∃m,W.cell? ⟨4,0,none⟩=some (.int .i64 m):=
  Go.Proofs.cell_of_shapedOpen_int (zero:=#[.int .i64 0]) (t:=3) am (of_decide_eq_true (by kernel_rfl)) (by kernel_rfl) rfl (by kernel_rfl) (by kernel_rfl) Tryz.underlying3
 have hp:Lib.TabIs Tryz.prog W "internal/strconv.uint64pow10" .u64 Lib.pow10Tab:=by
  obtain⟨g,t,cs,ai,p,y,ht,H,I⟩:=Lib.laidMet.reads O (n:= "internal/strconv.uint64pow10") (d:=Rows.laid_internal_strconv_uint64pow10) (.tail _ (.tail _ (.head _)));obtain rfl:=Option.some.inj (QrL.symm.trans y);obtain rfl:=Option.some.inj (Qr5.symm.trans ht);have e:(Rows.laid_internal_strconv_uint64pow10:DataW Unit)=Lib.tabData .u64 Lib.pow10Tab:=rfl;rw[e] at I;have:=Lib.cells_of_tab Tryz.underlying303 Tryz.underlying273 (by kernel_rfl) (by kernel_rfl) I;unfold Lib.TabIs;rw[H,<-this]
 have M:W.cell? ⟨2,0,none⟩=some (.string ⟨#[]⟩)/\W.cell? ⟨2,1,none⟩=some (.string ⟨#[105,110,116]⟩)/\W.cell? ⟨2,2,none⟩=some (.string ⟨#[116,101,120,116]⟩):=by
  obtain⟨g,t,cs,ai,p,y,ht,H,I⟩:=Lib.laidMet.reads O (n:= "foreman/table.kindWords") (d:=Rows.laid_foreman_table_kindWords) (.tail _ (.tail _ (.tail _ (.tail _ (.tail _ (.tail _ (.head _)))))));obtain rfl:=Option.some.inj (Qq2.symm.trans y);obtain rfl:=Option.some.inj (Qq3.symm.trans ht);have c0:=World.var?_cell y H 0;have c1:=World.var?_cell y H 1;have c2:=World.var?_cell y H 2;obtain⟨xs,m1,rfl,D,af,ak,F⟩:=DataW.trod_array Tryz.underlying194 I;have K:=F 0 (by decide);have N:=F 1 (by decide);have J:=F 2 (by decide);simp only[Prod.mk.injEq,Rows.laid_foreman_table_kindWords,DataW.agg.injEq] at D
  match xs,ak,D,K,N,J with
  |[x0,x1,x2],_,D,K,N,J=>
   simp only[List.map_cons,List.map_nil,List.cons.injEq,and_true] at D;obtain⟨⟨e0,e1,e2⟩,-⟩:=D;rw[Qo5] at K N J;obtain⟨s0,V,b0,-⟩:=DataW.trod_string Tryz.underlying9 (show DataW.trod _ Tryz.prog W 0 _ false m1 9 _=some x0 from K);obtain⟨s1,Z,b1,-⟩:=DataW.trod_string Tryz.underlying9 (show DataW.trod _ Tryz.prog W 0 _ false m1 9 _=some x1 from N);obtain⟨s2,a2,b2,-⟩:=DataW.trod_string Tryz.underlying9 (show DataW.trod _ Tryz.prog W 0 _ false m1 9 _=some x2 from J);rw[b0] at e0;rw[b1] at e1;rw[b2] at e2;simp only[DataW.lit.injEq,Lit.string.injEq] at e0 e1 e2;obtain⟨l⟩:=cs
   match l,af,V,Z,a2 with
   |[y0,y1,y2],_,V,Z,a2=>
    simp at V Z a2;subst V Z a2;simp at c0 c1 c2;exact⟨by rw[c0,Qgi e0.symm],by rw[c1,Qgi e1.symm],by rw[c2,Qgi e2.symm]⟩
 obtain⟨aR,tR,ac,ar,-,-⟩:=laid_sentinel (g:=7) O.tail.tail.tail.tail (by kernel_rfl) (by kernel_rfl) Tryz.underlying34 QrM Tryz.underlying294 Tryz.underlying296 rfl rfl Tryz.underlying9 (by kernel_rfl) (by kernel_rfl);obtain⟨aS,tS,ab,au,-,-⟩:=laid_sentinel (g:=6) O.tail.tail.tail.tail.tail (by kernel_rfl) (by kernel_rfl) Tryz.underlying34 QrM Tryz.underlying294 Tryz.underlying296 rfl rfl Tryz.underlying9 (by kernel_rfl) (by kernel_rfl);refine⟨?_,U,M.1,M.2.1,M.2.2,⟨_,_,ab⟩,⟨_,_,ac⟩,hp⟩;intro g y;have lt:∀(g i:Nat) (v:Value),W.cell? ⟨g,i,none⟩=some v->g<W.heap.size:=fun g i v h=>World.block_lt_of_cell? W ⟨g,i,none⟩ h
 simp only[List.mem_cons,List.not_mem_nil,or_false] at y;rcases y with rfl|rfl|rfl|rfl|rfl
 ·obtain⟨m,U⟩:=U;exact lt _ _ _ U
 ·exact lt _ _ _ M.1
 ·exact lt _ 0 _ ((World.var?_cell (by kernel_rfl) ab 0).trans rfl)
 ·exact lt _ 0 _ ((World.var?_cell (by kernel_rfl) ac 0).trans rfl)
 ·exact lt _ 0 _ ((World.var?_cell QrL hp 0).trans rfl)
end Go.Proofs.YtjlgejennghhlaaGreatDoor
