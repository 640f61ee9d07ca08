import Derived.Lib.ItoaLen
import Derived.Deep.RegionHeld3
import Derived.Deep.AppendLies
import Derived.Lib.QuietBelow
import Derived.Test.YtjlgejennghhlaaGreatDoorQ01
import Derived.Test.YtjlgejennghhlaaGreatDoorQ04
import Derived.Test.YtjlgejennghhlaaGreatDoorQ03
set_option linter.unusedSimpArgs false
set_option linter.unusedVariables false
set_option linter.unusedSectionVars false
set_option maxRecDepth 1000000
set_option maxHeartbeats 16000000
namespace Go.Proofs.YtjlgejennghhlaaGreatDoor
open Go.RowKit
theorem Qcx {cs:List Cl} {f:Nat} {acc:List (List V3)} {rest:List UInt8} {row:List V3} (D:rest≠[]) (h:QaU cs (Lib.cut rest [10]).1 false=some row) (y:acc.length≠60):QaL cs (f+1) acc rest true=QaL cs f (acc++[row]) (Lib.cut rest [10]).2.1 (Lib.cut rest [10]).2.2:=by
 simp[QaL,D,h,y]
theorem Qhw {cs:List Cl} {f:Nat} {acc:List (List V3)} {rest:List UInt8} (y:rest≠[]) (h:QaU cs (Lib.cut rest [10]).1 false=none):QaL cs (f+1) acc rest true=.error (3,1+acc.length):=by
 simp[QaL,y,h]
theorem Qgn {cs:List Cl} {f:Nat} {acc:List (List V3)} {rest:List UInt8} {row:List V3} (D:rest≠[]) (h:QaU cs (Lib.cut rest [10]).1 false=some row) (y:acc.length=60):QaL cs (f+1) acc rest true=.error (4,1+acc.length):=by
 simp[QaL,D,h,y]
theorem Qft {cs:List Cl} {f:Nat} {acc:List (List V3)}:QaL cs (f+1) acc [] true=.ok acc:=by simp[QaL]
theorem Qhx {cs:List Cl} {f:Nat} {acc:List (List V3)} {rest:List UInt8}:QaL cs (f+1) acc rest false=.error (3,1+acc.length):=by simp[QaL]
theorem Qjf (rest:List UInt8) (h:rest≠[]):(Lib.cut rest [10]).2.1.length<rest.length:=by
 have:0<rest.length:=List.length_pos_iff.2 h;unfold Lib.cut;split
 ·simp;omega
 ·simpa using this
theorem parse_any (s:ByteArray) (w:World) (hs:s.size<=100000) (hE:Env w):
 Calls Tryz.prog 18 #[.string s] w fun e w'=>Below w.heap.size w w'/\Qjc e w' (Qhv s.data.toList):=by
 have HE:=Hk hE;clear hE;have aK:Env (w.alloc (.cells #[.slice none 0 0,.slice none 0 0] 54)):=HE.out.below (Qaa _ _);have a8:=Hk (Qfi s ⟨#[10]⟩ (w.alloc (.cells #[.slice none 0 0,.slice none 0 0] 54)) (by omega) aK);have bb:=Hk aK;clear aK;go_enter Tryz.func18,Tryz.ntmps18;go_wp2_with (first|(go_at_call 47;refine a8.out.mono ?_;rintro e w1 ⟨rfl,au⟩;obtain⟨aN,aW⟩:=QaP au)|(go_at_call 48;fail));have aX:=Qfl s.data.toList [10];have bh:s.data.toList.length=s.size:=by simp
 generalize hx:Lib.cut s.data.toList [10]=x at*;obtain⟨h,r,en⟩:=x;have HX:=Hk (Qfs hx);have cj:h.length<=100000:=by have:=aX.1;simp only at this;omega
 have cr:r.length<=s.size:=by have:=aX.2;simp only at this;omega
 have bT:=Hk bh;clear hx aX bh a8;have aU:=Hk (bb.out.below au);have hR:w.heap.size<w1.heap.size:=by have:=au.size;simp at this;omega
 have q0:w1.cell? ⟨w.heap.size,0,none⟩=some (.slice none 0 0):=(aN _ _ (by simp)).trans (by simp);have q1:w1.cell? ⟨w.heap.size,1,none⟩=some (.slice none 0 0):=(aN _ _ (by simp)).trans (by simp);have z0:w1.frozen? ⟨w.heap.size,0,none⟩=false:=(aW _ _ (by simp)).trans (by simp);have z1:w1.frozen? ⟨w.heap.size,1,none⟩=false:=(aW _ _ (by simp)).trans (by simp);have b1:Below w.heap.size w w1:=(Qaa w _).trans (au.mono (by simp));have aT:=Hk b1;clear aN aW au b1;refine(QdP ⟨h.toArray⟩ w1 (by simp[ByteArray.size];omega) aU.out).mono ?_;rintro e F ⟨ah,ap⟩;unfold Qfm at ap;obtain⟨ac,aB⟩:=QaP ah;have s2:=ah.size;have M:w.heap.size<F.heap.size:=by omega
 by_cases g:Qai (colsOf ⟨h.toArray⟩)=true
 ·rw[if_pos g] at ap;obtain⟨vc,rfl,ak,aR⟩:=ap;have aa:=HX.out;rw[if_pos g] at aa;have ad:=Hk aa;have aI:=Qbq g;clear HX aa;generalize colsOf ⟨h.toArray⟩=cs at*;have aV:=Qbl ak aR;obtain⟨-,ch|⟨g1,am,ay,rfl,cq,bz,b3,-⟩⟩:=id ak
  ·omega
  ·have bd:=(ak.lt g1 rfl).2;have aC:Qau F g1 0 cs:=by
    obtain⟨a,c,e1,-,-,hh⟩:=aV;rcases hh with hh|⟨b,o,e2,hl,aC⟩
    ·rw[hh] at aI;simp at aI
    ·rw[e2] at e1;simp only[Value.slice.injEq,Option.some.injEq,Addr.mk.injEq,and_true,true_and] at e1;obtain⟨⟨rfl,rfl⟩,-⟩:=e1;exact aC
   have be:=Hk ak;have bf:=Hk aC;have bJ:=Hk aR;clear ak aC aR aV bz ay;have q0':=(ac _ 0 hR).trans q0;have q1':=(ac _ 1 hR).trans q1;have z0':=(aB _ 0 hR).trans z0;have z1':=(aB _ 1 hR).trans z1;have hb2':=Hk ah;clear ac aB ah q0 q1 z0 z1;go_wp2;obtain⟨W,hW⟩:∃W,W=F.alloc (.cells #[.slice (some ⟨g1,0,none⟩) cs.length am,.slice none 0 0] 54):=⟨_,rfl⟩;rw[<-hW];have H:Below F.heap.size F W:=by rw[hW];exact Qaa _ _
   have bi:Qgl W W F.heap.size (.slice (some ⟨g1,0,none⟩) cs.length am) (.slice none 0 0) [] []:=by
    rw[hW];exact⟨by simp,by simp,by simp,by simp,World.ownsRow_nil _ _ _ _,⟨rfl,fun j hj=>absurd hj (by simp)⟩,by simp,Below.refl _ _⟩
   have bV:=Hk (bel_then (bel_then aT.out hb2'.out) H);have cu:=Hk ((aU.out.below hb2'.out).below H);have bm:=Hk (bf.out.below H bd);have bw:=Hk (owns_below be.out H);have y0:=cK H M q0';have y1:=cK H M q1';have x0:=(H.frozen (p:=⟨w.heap.size,0,none⟩) M).trans z0';have x1:=(H.frozen (p:=⟨w.heap.size,1,none⟩) M).trans z1';have Y0:=Hk y0;have Y1:=Hk y1;have X0:=Hk x0;have X1:=Hk x1;clear y0 y1 x0 x1 q0' q1' z0' z1' hW hb2' bb aU aT be bf;obtain⟨i0,hi,bE,bU,bL⟩:=info_parts Tryz.infoRow;have bS:=Hk bi;clear bi H;go_loopw [5,6] (fun rv mv wr=>∃(rest:List UInt8) (az:Bool) (acc:List (List V3)) (us:List Value) (vr:Value) (f:Nat),rv=.string ⟨rest.toArray⟩/\mv=.bool az/\rest.length<f/\rest.length<=100000/\acc.length<=60/\QaL cs (s.data.toList.length+1) [] r en=QaL cs f acc rest az/\Qgl wr W F.heap.size (.slice (some ⟨g1,0,none⟩) cs.length am) vr us acc) (fun rv _ _=>Qje rv)
   case atStart=>exact⟨r,en,[],[],_,s.data.toList.length+1,rfl,rfl,by have:=bT.out;omega,by omega,by simp,rfl,bS.out⟩
   case round=>
    obtain⟨rest,az,acc,us,vr,f,rfl,rfl,hf,cf,cm,aL,aO⟩:=hrel;obtain⟨f,rfl⟩:∃f',f=f'+1:=⟨f-1,by omega⟩;have HM:=Hk aO;have U:=Hk aL;obtain⟨m1,m2,m3,m4,m5,-,-,m8⟩:=aO;obtain⟨va,av,rfl⟩:∃a c,vr=.slice a acc.length c:=by
     obtain⟨-,⟨rfl,hn⟩|⟨g,cp,ay,rfl,-⟩⟩:=m5
     ·exact⟨none,0,by rw[hn]⟩
     ·exact⟨_,_,rfl⟩
    have aQ:=Hk m5;have M8:=Hk m8;clear aL m5 m8;have r0:=cK M8.out M Y0.out;have r1:=cK M8.out M Y1.out;have ct:=(M8.out.frozen (p:=⟨w.heap.size,0,none⟩) M).trans X0.out;have cv:=(M8.out.frozen (p:=⟨w.heap.size,1,none⟩) M).trans X1.out;have ab:w.heap.size<wr.heap.size:=by omega
    have a9:Below w.heap.size w wr:=bV.out.trans (M8.out.mono (by omega));have aj:=Hk a9;clear a9
    cases az
    ·go_wp2_with (go_at_call 49;refine(wrong_any _ _ _).mono ?_;rintro e w3 ⟨rfl,hw,V,O,D⟩;obtain⟨y,J⟩:=QaP D);have c0:=(y w.heap.size 0 ab).trans r0;have c1:=(y w.heap.size 1 ab).trans r1;clear y J;refine bodyPost_ret (v:=.tuple #[.agg #[.slice none 0 0,.slice none 0 0],.iface 100 (.pointer (some ⟨wr.heap.size+1,0,none⟩))]) (by simp[results,Tryz.results18,go_sem,c0,c1]) rfl ⟨?_,?_⟩
     ·exact((bel_then aj.out D).setCell (Nat.le_refl _) _).setCell (Nat.le_refl _) _
     ·rw[ad.out,U.out,Qhx];exact Qfr (p:=1+acc.length) hw (by omega) V (by rw[Int.natCast_add];exact O)
    ·by_cases hre:rest=[]
     ·subst hre;go_wp2;refine bodyPost_ret (v:=.tuple #[.agg #[.slice (some ⟨g1,0,none⟩) cs.length am,.slice va acc.length av],.nilIface]) (by simp[results,Tryz.results18,go_sem,r0,r1]) rfl ⟨?_,?_⟩
      ·exact(aj.out.setCell (Nat.le_refl _) _).setCell (Nat.le_refl _) _
      ·rw[ad.out,U.out,Qft];obtain⟨-,-,-,-,m5,m6,m7,m8⟩:=HM.out;refine⟨_,_,rfl,?_,?_⟩
       ·refine Qbl (base:=w1.heap.size) ?_ bJ.out;refine ownsRow_setCell_below (ownsRow_setCell_below (Qgm bw.out m8 (fun k hk=>?_)) (by exact hR) _) (by exact hR) _;simp only[Value.ownBlock,Option.some.injEq] at hk;omega
       ·exact QiA (tb:=F.heap.size) (ownsRow_setCell_below (ownsRow_setCell_below m5 (by show w.heap.size<_;omega) _) (by show w.heap.size<_;omega) _) (Qe2 (Qe2 m6 (by omega)) (by omega)) m7
     ·have ck:rest.isEmpty=false:=by cases rest<;>simp_all
      have cn:=Qfl rest [10];have aP:=Hk (Qjf rest hre);have aS:Hid (Calls Tryz.prog 47 #[.string ⟨rest.toArray⟩,.string ⟨#[10]⟩] wr fun e w'=>e=.returned (.tuple #[.string ⟨(Lib.cut rest [10]).1.toArray⟩,.string ⟨(Lib.cut rest [10]).2.1.toArray⟩,.bool (Lib.cut rest [10]).2.2])/\Below wr.heap.size wr w'):=Qfi ⟨rest.toArray⟩ ⟨#[10]⟩ wr (by simp[ByteArray.size];omega) (HE.out.below aj.out);go_wp2_with (first|(go_at_call 47;refine aS.out.mono ?_;rintro e w3 ⟨rfl,D⟩;obtain⟨y,J⟩:=QaP D)|(go_at_call 50;fail));have bG:g1<w3.heap.size:=by have:=D.size;omega
      have a7:=Hk (Qfp ⟨(Lib.cut rest [10]).1.toArray⟩ g1 0 cs.length am cs w3 (by simp[ByteArray.size];omega) ((HE.out.below aj.out).below D) rfl (by omega) bG ((bm.out.below M8.out bd).below D (by omega)));refine a7.out.mono ?_;rintro e w4 ⟨ae,I⟩;clear a7 aS;obtain⟨K,aA⟩:=QaP ae;have ax:w.heap.size<w3.heap.size:=by have:=D.size;omega
      have aD:w.heap.size<w4.heap.size:=by have:=ae.size;omega
      have bj:F.heap.size<w3.heap.size:=by have:=D.size;omega
      have bk:F.heap.size<w4.heap.size:=by have:=ae.size;omega
      have b4:=Hk (bel_then (bel_then aj.out D) ae);rw[show(ByteArray.mk (Lib.cut rest [10]).1.toArray).data.toList=(Lib.cut rest [10]).1 from rfl] at I
      cases hrow:QaU cs (Lib.cut rest [10]).1 false with
      |none=>
       rw[hrow] at I;have bs:e=_:=I;subst bs;have af:=Hk hrow;clear I hrow;go_wp2_with (go_at_call 49;refine(wrong_any _ _ _).mono ?_;rintro e w5 ⟨rfl,hw,V,O,ao⟩;obtain⟨Z,aM⟩:=QaP ao);have c0:=(Z w.heap.size 0 aD).trans ((K _ _ ax).trans ((y _ _ ab).trans r0));have c1:=(Z w.heap.size 1 aD).trans ((K _ _ ax).trans ((y _ _ ab).trans r1));clear y J K aA Z aM;refine bodyPost_ret (v:=.tuple #[.agg #[.slice none 0 0,.slice none 0 0],.iface 100 (.pointer (some ⟨w4.heap.size+1,0,none⟩))]) (by simp[results,Tryz.results18,go_sem,c0,c1]) rfl ⟨?_,?_⟩
       ·exact((bel_then b4.out ao).setCell (Nat.le_refl _) _).setCell (Nat.le_refl _) _
       ·rw[ad.out,U.out,Qhw hre af.out];exact Qfr (p:=1+acc.length) hw (by omega) V (by rw[Int.natCast_add];exact O)
      |some row=>
       rw[hrow] at I;obtain⟨u,rfl,hu,bP⟩:=I;obtain⟨ua,bv,bW⟩:∃a c,u=.slice a row.length c:=by
        obtain⟨-,⟨rfl,hn⟩|⟨g,cp,ay,rfl,-⟩⟩:=hu
        ·exact⟨none,0,by rw[hn]⟩
        ·exact⟨_,_,rfl⟩
       subst bW;have af:=Hk hrow;have HU:=Hk hu;clear hrow hu
       by_cases h60':acc.length=60
       ·have bK:((acc.length:Int)==60)=true:=by simp;omega
        go_wp2_with (go_at_call 49;refine(wrong_any _ _ _).mono ?_;rintro e w5 ⟨rfl,hw,V,O,ao⟩;obtain⟨Z,aM⟩:=QaP ao);have c0:=(Z w.heap.size 0 aD).trans ((K _ _ ax).trans ((y _ _ ab).trans r0));have c1:=(Z w.heap.size 1 aD).trans ((K _ _ ax).trans ((y _ _ ab).trans r1));clear y J K aA Z aM;refine bodyPost_ret (v:=.tuple #[.agg #[.slice none 0 0,.slice none 0 0],.iface 100 (.pointer (some ⟨w4.heap.size+1,0,none⟩))]) (by simp[results,Tryz.results18,go_sem,c0,c1]) rfl ⟨?_,?_⟩
        ·exact((bel_then b4.out ao).setCell (Nat.le_refl _) _).setCell (Nat.le_refl _) _
        ·rw[ad.out,U.out,Qgn hre af.out h60'];exact Qfr (p:=1+acc.length) hw (by omega) V (by rw[h60'];exact O)
       ·have bK:((acc.length:Int)==60)=false:=by simp;omega
        have a0:=Hk (Qcx (f:=f) hre af.out h60');go_wp2_with (at_builtin;refine wpList_append_own _ rfl _ _ 52 rfl (F.heap.size+1) 84 i0 (.slice none 0 0) 1 24 Tryz.underlying52 hi bE bU bL rfl (by decide) _ _ _ rfl ((owns_below (owns_below aQ.out D) ae).alloc _) ⟨w4.heap.size,0,none⟩ 1 1 [.slice ua row.length bv] rfl rfl ?c1 ?c2 ?c3 ?c4 ?c5 ?_)
        case c1=>
         intro j u hj
         match j,hj with
         |0,hj=>simp at hj;subst hj;simp[Addr.add]
        case c2=>intro u hu;simp at hu;subst hu;rfl
        case c3=>unfold maxLen;omega
        case c4=>omega
        case c5=>simp;omega
        ·intro v' w5 ag N _;have bg:=Qjd HM.out D ae HU.out bP _ ag N;obtain⟨co,bZ,rfl⟩:∃a c,v'=.slice a (acc.length+1) c:=by
          obtain⟨-,⟨rfl,hn⟩|⟨g,cp,ay,rfl,-⟩⟩:=ag
          ·omega
          ·exact⟨_,_,rfl⟩
         have bY:=Hk bg;have a6:some F.heap.size≠(Value.slice va acc.length av).ownBlock:=fun e=>by have:=(aQ.out.lt _ e.symm).1;omega
         have t1:w5.cell? ⟨F.heap.size,1,none⟩=some (.slice va acc.length av):=N.cell (a:=⟨F.heap.size,1,none⟩) (by rw[World.cell?_alloc_past _ _ _ bk];exact(K _ _ bj).trans ((y _ _ m1).trans m3)) a6;have t2:w5.frozen? ⟨F.heap.size,1,none⟩=false:=by
          rw[World.frozen?_of_block (w:=w4.alloc _) (w':=w5) (a:=⟨F.heap.size,1,none⟩) (N.block F.heap.size (by simp;omega) a6)];rw[World.frozen?_of_block (w:=w4) (w':=w4.alloc _) (a:=⟨F.heap.size,1,none⟩) (Below.heap_alloc _ _ _ bk)];exact(aA _ _ bj).trans ((J _ _ m1).trans m4)
         clear bg ag N y J K aA;go_wp2;go_roundw
         case rel=>exact⟨(Lib.cut rest [10]).2.1,(Lib.cut rest [10]).2.2,acc++[row],_,_,f,rfl,rfl,by have:=aP.out;omega,by have:=aP.out;omega,by simp;omega,by rw[U.out,a0.out],bY.out⟩
         case measure=>have:=aP.out;simpa [Qje,ByteArray.size] using this
 ·rw[if_neg g] at ap;subst ap;have aa:=HX.out;rw[if_neg g] at aa;have ad:=Hk aa;clear HX aa;go_wp2_with (go_at_call 49;refine(wrong_any _ _ _).mono ?_;rintro e w3 ⟨rfl,hw,V,O,D⟩;obtain⟨y,J⟩:=QaP D);have c0:=(y w.heap.size 0 (by omega)).trans ((ac _ _ hR).trans q0);have c1:=(y w.heap.size 1 (by omega)).trans ((ac _ _ hR).trans q1);clear y J ac aB;refine bodyPost_ret (v:=.tuple #[.agg #[.slice none 0 0,.slice none 0 0],.iface 100 (.pointer (some ⟨F.heap.size+1,0,none⟩))]) (by simp[results,Tryz.results18,go_sem,c0,c1]) rfl ⟨?_,?_⟩
  ·exact((bel_then (bel_then aT.out ah) D).setCell (Nat.le_refl _) _).setCell (Nat.le_refl _) _
  ·rw[ad.out];exact Qfr hw (by omega) V O
theorem Qpo (r:List (List UInt8)) (h:∀x∈r,x.length<=1000):Lib.lens r<=1000*r.length:=by
 induction r with
 |nil=>simp[Lib.lens]
 |cons x r ih=>
  have F:=h x (by simp);have D:=ih (fun y hy=>h y (by simp[hy]));simp only[Lib.lens,List.map_cons,List.sum_cons,List.length_cons] at D⊢;omega
theorem Qlv (xs:List (List UInt8)) (y:xs.length<=100) (h:∀x∈xs,x.length<=1000):(Lib.join xs [32]).length<=100100:=by
 cases xs with
 |nil=>simp[Lib.join_nil]
 |cons x r=>
  rw[Lib.join_length];have:=Qpo (x::r) h;simp at y this⊢;omega
theorem builder_new (w:World):Lib.IsBuilder 285 5 w.heap.size w.heap.size [] (w.alloc (.cells #[.pointer none,.slice none 0 0] 285)):=
 Or.inl ⟨Nat.le_refl _,.slice none 0 0,heap_alloc_new _ _,World.ownsRow_nil _ _ _ _,by simp[Value.ownBlock]⟩
theorem QaI {cs:List Cl} {rs:List (List Vl)} (h:Qae cs rs=true):Qai cs=true/\rs.length<=60/\∀r∈rs,QaO r cs=true:=by
 simp[Qae] at h;exact⟨h.1,h.2.1,fun r hr=>h.2.2 r hr⟩
theorem QbO:∀(cs D:List Cl),Qcv D cs=true->∀c∈cs,Qek c.1.data.toList=true/\Qhr c.2=true
 |[],_,_,c,y=>absurd y (by simp)
 |d::r,D,h,c,y=>by
  simp[Qcv] at h;rcases List.mem_cons.1 y with rfl|y
  ·exact⟨h.1,h.2.1⟩
  ·exact QbO r _ h.2.2.2 c y
theorem Tryz.infoStr:(Tryz.prog.info? 9).map (fun i=>(i.zero,i.size,i.bytes))=some (some (.string ⟨#[]⟩),1,16):=by kernel_rfl
def Qaq (cs:List Cl) (nm:List UInt8):Option Nat:=cs.findIdx? fun c=>c.1.data.toList==nm
def QaB (cs:List Cl) (nm:List UInt8):Int:=match Qaq cs nm with
 |some i=>(i:Int)
 |none=>-1
theorem Qap {cs:List Cl} {nm:List UInt8} {i:Nat} (h:Qaq cs nm=some i):i<cs.length:=by
 have:=List.findIdx?_eq_some_iff_getElem.1 h;exact this.1
theorem QiB {cs:List Cl} {nm:List UInt8} {k:Nat} (F:k<cs.length) (D:(cs[k].1.data.toList==nm)=true) (y:∀j (h:j<k),(cs[j].1.data.toList==nm)=false):Qaq cs nm=some k:=by
 refine List.findIdx?_eq_some_iff_getElem.2 ⟨F,D,fun j hj=>?_⟩;rw[y j hj];simp
theorem Qlw {cs:List Cl} {nm:List UInt8} (y:∀j (h:j<cs.length),(cs[j].1.data.toList==nm)=false):Qaq cs nm=none:=by
 refine List.findIdx?_eq_none_iff.2 fun x hx=>?_
 obtain⟨j,D,rfl⟩:=List.mem_iff_getElem.1 hx;exact y j D
theorem Qkf (s nm:ByteArray) (k:Int) (h:Nat) (w:World) (D:w.cell? ⟨h,0,none⟩=some (.string nm)) (y:h<w.heap.size):
 Calls Tryz.prog 169 #[.agg #[.string s,.int .i64 k],.pointer (some ⟨h,0,none⟩)] w fun e w'=>e=.returned (.bool (s.data.toList==nm.data.toList))/\Below w.heap.size w w':=by
 go_enter Tryz.func169,Tryz.ntmps169;go_wp2;go_ret;exact⟨ret_bool (by rw[ByteArray.toList_eq,ByteArray.toList_eq]),Qaa _ _⟩
theorem Qhy (b o n c:Nat) (cs:List Cl) (nm:ByteArray) (D:Nat) (w:World) (Z:cs.length=n) (ae:n<=100) (U:b<w.heap.size) (hc:Qau w b o cs) (ha:w.cell? ⟨D,0,none⟩=some (.string nm)) (O:D<w.heap.size):
 Calls Tryz.prog 72 #[.slice (some ⟨b,o,none⟩) n c,.func (.func 169) #[] #[.pointer (some ⟨D,0,none⟩)]] w fun e w'=>e=.returned (.int .i64 (QaB cs nm.data.toList))/\Below w.heap.size w w':=by
 have V:Hid (cs.length=n):=Z;clear Z;go_enter Tryz.func72,Tryz.ntmps72;go_wp2;go_loopw [8] (fun i wr=>∃k:Nat,k<=n/\i=.int .i64 k/\(∀j (h:j<cs.length),j<k->(cs[j].1.data.toList==nm.data.toList)=false)/\Below w.heap.size w wr) (fun i _=>n-(intOf i).toNat)
 case atStart=>exact⟨0,Nat.zero_le _,rfl,fun j _ h=>absurd h (by omega),Below.refl _ _⟩
 case round=>
  obtain⟨k,hk,rfl,K,y⟩:=hrel;have M:=Hk K;clear K
  by_cases hlt:k<n
  ·have I:k<cs.length:=by have:=V.out;omega
   obtain⟨c1,c2⟩:=hc k I;have d1:=cK y U c1;have d2:=cK y U c2;clear c1 c2;have H:=Hk (Qkf cs[k].1 nm cs[k].2 D wr (cK y O ha) (by have:=y.size;omega))
   cases hp:(cs[k].1.data.toList==nm.data.toList)
   ·rw[hp] at H;have N:=Hk hp;clear hp;go_wp2_with (go_at_call 169;refine H.out.mono ?_;rintro e w1 ⟨rfl,F⟩);go_roundw
    case rel=>
     refine⟨k+1,by omega,by go_num,fun j h hj=>?_,bel_then y F⟩;rcases Nat.lt_or_ge j k with J|J
     ·exact M.out j h J
     ·obtain rfl:j=k:=by omega
      exact N.out
    case measure=>simp[intOf];omega
   ·rw[hp] at H;have N:=Hk hp;clear hp;go_wp2_with (go_at_call 169;refine H.out.mono ?_;rintro e w1 ⟨rfl,F⟩);go_ret;refine⟨Qby ?_,bel_then y F⟩;rw[QaB,QiB I N.out (fun j hj=>M.out j (by omega) hj)]
  ·go_wp2;go_ret;refine⟨Qby ?_,y⟩;rw[QaB,Qlw (fun j hj=>M.out j hj (by have:=V.out;omega))]
theorem QaH (b o n c:Nat) (cs:List Cl) (nm:ByteArray) (w:World) (F:cs.length=n) (h:n<=100) (H:b<w.heap.size) (D:Qau w b o cs):
 Calls Tryz.prog 133 #[.slice (some ⟨b,o,none⟩) n c,.string nm] w fun e w'=>e=.returned (.int .i64 (QaB cs nm.data.toList))/\Below w.heap.size w w':=by
 have I:=mkF;have HI:=Hk (fun o'=>Qhy b o n c cs nm w.heap.size (w.alloc (.cells #[.string nm] o')) F h (by simp;omega) (D.below (Qaa _ _) H) (by simp) (by simp));clear F D;go_enter Tryz.func133,Tryz.ntmps133;go_wp2_with (go_at_call 72;refine(HI.out _).mono ?_;rintro e J ⟨rfl,y⟩);go_ret;exact⟨rfl,bel_then (Qaa _ _) y⟩
theorem Qlx (v:Value) (cs:List Cl) (nm:ByteArray) (w:World) (h:Qax w v cs) (y:1<=cs.length) (F:cs.length<=100):
 Calls Tryz.prog 133 #[v,.string nm] w fun e w'=>e=.returned (.int .i64 (QaB cs nm.data.toList))/\Below w.heap.size w w':=by
 obtain⟨a,c,rfl,J,I,h⟩:=h;rcases h with h|⟨b,o,rfl,H,D⟩
 ·rw[h] at y;simp at y
 ·exact QaH b o cs.length c cs nm w rfl F H D
abbrev Ag:=ByteArray×Vl
def Qb6 (cs:List Cl) (r:List Vl) (x:Ag):Vl:=if x.1.data.toList=[] then x.2 else match Qaq cs x.1.data.toList with
 |some i=>r[i]?.getD (0,0,⟨#[]⟩)
 |none=>(0,0,⟨#[]⟩)
abbrev aggV (x:Vl):Value:=.agg #[.int .i64 x.1,.int .i64 x.2.1,.string x.2.2]
theorem QiC (y D:Value) (x:Ag) (w:World) (h:x.1.data.toList=[]):
 Calls Tryz.prog 141 #[y,D,.agg #[.string x.1,.int .i64 x.2.1,.int .i64 x.2.2.1,.string x.2.2.2]] w fun e w'=>e=.returned (aggV x.2)/\Below w.heap.size w w':=by
 have he:x.1.toList.isEmpty=true:=by rw[ByteArray.toList_eq,h];rfl
 clear h;go_enter Tryz.func141,Tryz.ntmps141;go_wp2;refine bodyPost_ret (v:=aggV x.2) (by simp[results,Tryz.results141,go_sem]) rfl ⟨rfl,?_⟩;exact((Below.refl _ _).alloc (Nat.le_refl _) _).alloc (by simp) _
theorem QiD (H I rc b o n c:Nat) (cs:List Cl) (r:List Vl) (x:Ag) (i:Nat) (w:World) (hx:x.1.data.toList≠[]) (V:Qaq cs x.1.data.toList=some i) (hi:i<r.length) (am:r.length<=100)
 (hn:cs.length=n) (Z:n<=100) (hb:b<w.heap.size) (hc:Qau w b o cs) (J:H<w.heap.size) (hr:QaR w H I r):
 Calls Tryz.prog 141 #[.slice (some ⟨H,I,none⟩) r.length rc,.slice (some ⟨b,o,none⟩) n c,.agg #[.string x.1,.int .i64 x.2.1,.int .i64 x.2.2.1,.string x.2.2.2]] w fun e w'=>e=.returned (aggV r[i])/\Below w.heap.size w w':=by
 have he:x.1.toList.isEmpty=false:=by
  rw[ByteArray.toList_eq]
  cases h:x.1.data.toList with
  |nil=>exact absurd h hx
  |cons a q=>rfl
 obtain⟨W,N⟩:∃W,W=(w.alloc (.cells #[.string x.1,.int .i64 x.2.1,.int .i64 x.2.2.1,.string x.2.2.2] 48)).alloc (.cells #[.int .i64 0,.int .i64 0,.string ⟨#[]⟩] 46):=⟨_,rfl⟩;have F:Below w.heap.size w W:=by rw[N];exact((Below.refl _ _).alloc (Nat.le_refl _) _).alloc (by simp) _
 have M:=QaH b o n c cs x.1 W hn Z (by have:=F.size;omega) (hc.below F hb);rw[show QaB cs x.1.data.toList=(i:Int) by rw[QaB,V]] at M;rw[N] at M F;have HP:=Hk M;have U:=Hk F;have O:=Hk (hr i hi);clear hx V hn hc hr M F N;go_enter Tryz.func141,Tryz.ntmps141;go_wp2_with (go_at_call 133;refine HP.out.mono ?_;rintro e K ⟨rfl,D⟩;have y:=bel_then U.out D;have d0:=cK y J O.out.1;have d1:=cK y J O.out.2.1;have d2:=cK y J O.out.2.2;obtain⟨ap,ao⟩:=QaP D;have al:w.heap.size+1<K.heap.size:=by(have:=D.size;simp at this;omega));have y:=bel_then U.out D;have g0:K.cell? ⟨w.heap.size+1,0,none⟩=some (.int .i64 0):=(D.cell (p:=⟨w.heap.size+1,0,none⟩) (by simp)).trans (by simp);have g1:K.cell? ⟨w.heap.size+1,1,none⟩=some (.int .i64 0):=(D.cell (p:=⟨w.heap.size+1,1,none⟩) (by simp)).trans (by simp);have g2:K.cell? ⟨w.heap.size+1,2,none⟩=some (.string ⟨#[]⟩):=(D.cell (p:=⟨w.heap.size+1,2,none⟩) (by simp)).trans (by simp);refine bodyPost_ret (v:=aggV r[i]) (by simp[results,Tryz.results141,go_sem,g0,g1,g2]) rfl ⟨rfl,?_⟩;exact((y.setCell (by show w.heap.size<=w.heap.size+1;omega) _).setCell (by show w.heap.size<=w.heap.size+1;omega) _).setCell (by show w.heap.size<=w.heap.size+1;omega) _
theorem Qfu (H D:Value) (cs:List Cl) (r:List Vl) (x:Ag) (w:World) (hc:Qax w D cs) (hr:Qcw w H r) (V:cs.length<=100) (N:r.length=cs.length) (M:x.1.data.toList=[]\/∃i,Qaq cs x.1.data.toList=some i):
 Calls Tryz.prog 141 #[H,D,.agg #[.string x.1,.int .i64 x.2.1,.int .i64 x.2.2.1,.string x.2.2.2]] w fun e w'=>e=.returned (aggV (Qb6 cs r x))/\Below w.heap.size w w':=by
 by_cases hx:x.1.data.toList=[]
 ·rw[Qb6,if_pos hx];exact QiC H D x w hx
 ·obtain⟨i,J⟩:=M.resolve_left hx;have y:=Qap J;obtain⟨a,c,rfl,-,-,h⟩:=hc;obtain⟨a',c',rfl,-,F⟩:=hr;rcases h with h|⟨b,o,rfl,U,O⟩
  ·rw[h] at y;simp at y
  rcases F with F|⟨Z,ro,rfl,K,I⟩
  ·rw[F] at N;simp at N;omega
  have:=QiD Z ro c' b o cs.length c cs r x i w hx J (by omega) (by omega) rfl V U O K I;have e:Qb6 cs r x=r[i]'(by omega):=by
   unfold Qb6;rw[if_neg hx,J]
   show r[i]?.getD _=_
   rw[List.getElem?_eq_getElem (show i<r.length by omega)];rfl
  rw[e];exact this
def Qly (op:List UInt8) (less more:Bool):Bool:=
 if op=[61] then !less&& !more else if op=[60,62] then less||more else if op=[60] then less else if op=[60,61] then !more else if op=[62] then more else !less
def QbX (a b:Vl):Bool:=Qhm a.1 a.2.1 a.2.2.data.toList b.1 b.2.1 b.2.2.data.toList
theorem Qlz (op:ByteArray) (a b:Vl) (w:World):
 Calls Tryz.prog 140 #[.string op,aggV a,aggV b] w fun e w'=>e=.returned (.bool (Qly op.data.toList (QbX a b) (QbX b a)))/\Below w.heap.size w w':=by
 obtain⟨m1,y⟩:∃m,QbX a b=m:=⟨_,rfl⟩;obtain⟨m2,D⟩:∃m,QbX b a=m:=⟨_,rfl⟩;rw[y,D];unfold QbX at y D;have ac:=Hk y;have N:=Hk D;clear y D;obtain⟨W,h⟩:∃W,W=(w.alloc (.cells #[.int .i64 a.1,.int .i64 a.2.1,.string a.2.2] 46)).alloc (.cells #[.int .i64 b.1,.int .i64 b.2.1,.string b.2.2] 46):=⟨_,rfl⟩;have H:Below w.heap.size w W:=by rw[h];exact((Below.refl _ _).alloc (Nat.le_refl _) _).alloc (by simp) _
 have a0:W.cell? ⟨w.heap.size,0,none⟩=some (.int .i64 a.1):=by rw[h];simp
 have a1:W.cell? ⟨w.heap.size,1,none⟩=some (.int .i64 a.2.1):=by rw[h];simp
 have a2:W.cell? ⟨w.heap.size,2,none⟩=some (.string a.2.2):=by rw[h];simp
 have O:W.cell? ⟨w.heap.size+1,0,none⟩=some (.int .i64 b.1):=by rw[h];simp
 have M:W.cell? ⟨w.heap.size+1,1,none⟩=some (.int .i64 b.2.1):=by rw[h];simp
 have Z:W.cell? ⟨w.heap.size+1,2,none⟩=some (.string b.2.2):=by rw[h];simp
 have A0:=cell_regrown a0;have A1:=cell_regrown a1;have A2:=cell_regrown a2;have B0:=cell_regrown O;have B1:=cell_regrown M;have B2:=cell_regrown Z;have J:∀x1 x2 x3 y1 y2 y3 d os,_:=fun x1 x2 x3 y1 y2 y3 d os=>Calls.regrown_of (QnB x1 x2 x3 y1 y2 y3 (Sort.grow (redrawn W d) os))
 have U:=Hk H;clear H a0 a1 a2 O M Z;go_enter Tryz.func140,Tryz.ntmps140;go_wp2;rw[<-h];clear h;refine wp_region_quiet_below (by kernel_rfl) (by kernel_rfl) ?_
 repeat(any_goals(first|go_big_quiet_step (first|exact J _ _ _ _ _ _ _ _)|quiet_step (first|exact J _ _ _ _ _ _ _ _)))
 refine wpQuiet_nil ?_;intro _ K;obtain⟨⟨dq,F⟩,I⟩:=K;subst I;have V:=Hk (bel_then U.out (below_regrown W dq F));clear A0 A1 A2 B0 B1 B2 J U;rw[ac.out,N.out];generalize Sort.grow (redrawn W dq) F=W5 at*
 cases m1<;>cases m2
 all_goals
  go_wp2
  all_goals go_ret
  all_goals refine⟨ret_bool ?_,V.out⟩
  all_goals simp_all [Qly,ByteArray.toList_eq]
end Go.Proofs.YtjlgejennghhlaaGreatDoor
namespace Go.Proofs.YtjlgejennghhlaaGreatDoor
namespace Stb
open Go.Shelf Go.RowKit Go.Lib Go.Sort
variable {α:Type} [Inhabited α]
theorem sym_any (enc:α->Value) (D:α->α->Int) (g:Nat) (U:Array Value) (blk y I N:Nat) (K:Array α) (H:World) (eg:∀args w,(callFunc g args).run Tryz.prog w=.ok (.enter g args) w) (F:CmpLays1 Tryz.prog g U enc D blk y K.size H) (Z:Ord (ltOf D)) (R:Row1 enc H blk y K) (hN:K.size=N) (J:N<4611686018427387904):
 ∀(k a m b:Nat) (P L Q S:List α) (w:World),P.length=a->m=a+L.length->b=m+Q.length->0<L.length->0<Q.length->L.length+Q.length<=k->(P++(L++(Q++S))).length=N->Sorted (ltOf D) L->Sorted (ltOf D) Q->SW enc H blk y (P++(L++(Q++S))).toArray w->
 Calls Tryz.prog 202 #[.slice (some ⟨blk,y,none⟩) N I,.int .i64 a,.int .i64 m,.int .i64 b,.func (.func g) #[] U] w fun e w'=>e=.returned (.tuple #[])/\∃M,Sorted (ltOf D) M/\Same (ltOf D) (L++Q) M/\SW enc H blk y (P++(M++S)).toArray w'
 |0,_,_,_,_,_,_,_,_,_,_,_,h,_,hk,_,_,_,_=>by omega
 |k+1,a,m,b,P,L,Q,S,w,ha,hm,hb,hL,hQ,hk,hlen,sL,sQ,S0=>by
  by_cases h1:L.length=1
  ·obtain⟨x,rfl⟩:=List.length_eq_one_iff.1 h1;exact sym_left enc D g U blk y I a m b N x P Q S K H w eg F Z R hN J hlen ha (by simpa using hm) hb sQ S0
  ·by_cases h2:Q.length=1
   ·obtain⟨x,rfl⟩:=List.length_eq_one_iff.1 h2;exact sym_right enc D g U blk y I a m b N x P L S K H w eg F Z R hN J hlen ha hm (by simpa using hb) (by omega) sL S0
   ·have IH:=fun(a' m' b':Nat) (P' O V S':List α) (W:World) (q1:P'.length=a') (q2:m'=a'+O.length) (q3:b'=m'+V.length) (q4:0<O.length) (q5:0<V.length) (q6:O.length+V.length<L.length+Q.length) (q7:(P'++(O++(V++S'))).length=N) (q8:Sorted (ltOf D) O) (q9:Sorted (ltOf D) V) (ah:SW enc H blk y (P'++(O++(V++S'))).toArray W)=>sym_any enc D g U blk y I N K H eg F Z R hN J k a' m' b' P' O V S' W q1 q2 q3 q4 q5 (by omega) q7 q8 q9 ah
    by_cases hc:(a+b)/2<m
    ·exact sym_gt enc D g U blk y I a m b N P L Q S K H w eg F Z R hN J hlen ha hm hb (by omega) (by omega) sL sQ ((a+b)/2) rfl hc IH S0
    ·exact sym_le enc D g U blk y I a m b N P L Q S K H w eg F Z R hN J hlen ha hm hb (by omega) (by omega) sL sQ ((a+b)/2) rfl hc IH S0
omit [Inhabited α] in
inductive Blk (lt:α->α->Bool) (s:Nat):List α->Prop
 |last (M:List α):M.length<=s->Sorted lt M->Blk lt s M
 |cons (M D:List α):M.length=s->Sorted lt M->Blk lt s D->Blk lt s (M++D)
inductive Full (lt:α->α->Bool) (s:Nat):List α->Prop
 |nil:Full lt s []
 |snoc (D M:List α):Full lt s D->M.length=s->Sorted lt M->Full lt s (D++M)
omit [Inhabited α] in
theorem Full.blk {lt:α->α->Bool} {s:Nat} {D:List α} (h:Full lt s D):∀{E:List α},Blk lt s E->Blk lt s (D++E):=by
 induction h with
 |nil=>intro E y;simpa using y
 |snoc D M _ h1 h2 ih=>intro E y;rw[List.append_assoc];exact ih (Blk.cons M E h1 h2 y)
omit [Inhabited α] in
theorem Blk.whole {lt:α->α->Bool} {s:Nat} {E:List α} (h:Blk lt s E) (y:E.length<=s):Sorted lt E:=by
 cases h with
 |last _ _ h2=>exact h2
 |cons M D h1 h2 h3=>
  have:D=[]:=List.length_eq_zero_iff.1 (by rw[List.length_append] at y;omega);subst this;simpa using h2
omit [Inhabited α] in
theorem Blk.two {lt:α->α->Bool} {s:Nat} {E:List α} (h:Blk lt s E) (F:0<s) (y:2*s<=E.length):∃L Q E',E=L++(Q++E')/\L.length=s/\Q.length=s/\Sorted lt L/\Sorted lt Q/\Blk lt s E':=by
 cases h with
 |last _ h1 h2=>omega
 |cons M D h1 h2 h3=>
  rw[List.length_append] at y
  cases h3 with
  |last _ k1 k2=>exact⟨M,D,[],by simp,h1,by omega,h2,k2,Blk.last _ (by simp) (sorted_short _ _ (by simp))⟩
  |cons Q E' k1 k2 k3=>exact⟨M,Q,E',rfl,h1,k1,h2,k2,k3⟩
omit [Inhabited α] in
theorem Blk.tail {lt:α->α->Bool} {s:Nat} {E:List α} (h:Blk lt s E) (F:s<E.length) (y:E.length<2*s):∃L Q,E=L++Q/\L.length=s/\0<Q.length/\Sorted lt L/\Sorted lt Q:=by
 cases h with
 |last _ h1 h2=>omega
 |cons M D h1 h2 h3=>
  rw[List.length_append] at F y;exact⟨M,D,rfl,h1,by omega,h2,h3.whole (by omega)⟩
end Stb
end Go.Proofs.YtjlgejennghhlaaGreatDoor
namespace Go.Proofs.YtjlgejennghhlaaGreatDoor
namespace Stb
open Go.Shelf Go.RowKit Go.Lib Go.Sort
variable {α:Type} [Inhabited α]
theorem stable_any (enc:α->Value) (y:α->α->Int) (g:Nat) (cb:Array Value) (blk F ai N:Nat) (O:List α) (K:World) (eg:∀args w,(callFunc g args).run Tryz.prog w=.ok (.enter g args) w) (aj:CmpLays1 Tryz.prog g cb enc y blk F O.toArray.size K) (ho:Ord (ltOf y)) (R:Row1 enc K blk F O.toArray) (hN:O.length=N) (aL:N<1152921504606846976):
 Calls Tryz.prog 193 #[.slice (some ⟨blk,F,none⟩) N ai,.int .i64 N,.func (.func g) #[] cb] K fun e w'=>e=.returned (.tuple #[])/\∃l,Sorted (ltOf y) l/\Same (ltOf y) O l/\SW enc K blk F l.toArray w':=by
 have hN':O.toArray.size=N:=by simpa using hN
 have ao:Aside (∀(a b:Nat) (P M S:List α) (W:World),(P++(M++S)).length=N->P.length=a->b=a+M.length->SW enc K blk F (P++(M++S)).toArray W->Calls Tryz.prog 201 #[.slice (some ⟨blk,F,none⟩) N ai,.int .i64 a,.int .i64 b,.func (.func g) #[] cb] W fun e w'=>e=.returned (.tuple #[])/\∃M',Sorted (ltOf y) M'/\Same (ltOf y) M M'/\SW enc K blk F (P++(M'++S)).toArray w'):=
  fun a b P M S W h1 h2 h3 V=>insertion_any enc y g cb blk F ai a b N P M S O.toArray K W eg aj ho R hN' h1 h2 h3 (by omega) V
 have ap:Aside (∀(a m b:Nat) (P L Q S:List α) (W:World),P.length=a->m=a+L.length->b=m+Q.length->0<L.length->0<Q.length->(P++(L++(Q++S))).length=N->Sorted (ltOf y) L->Sorted (ltOf y) Q->SW enc K blk F (P++(L++(Q++S))).toArray W->Calls Tryz.prog 202 #[.slice (some ⟨blk,F,none⟩) N ai,.int .i64 a,.int .i64 m,.int .i64 b,.func (.func g) #[] cb] W fun e w'=>e=.returned (.tuple #[])/\∃M,Sorted (ltOf y) M/\Same (ltOf y) (L++Q) M/\SW enc K blk F (P++(M++S)).toArray w'):=
  fun a m b P L Q S W h1 h2 h3 V h5 h6 h7 h8 h9=>sym_any enc y g cb blk F ai N O.toArray K eg aj ho R hN' (by omega) _ a m b P L Q S W h1 h2 h3 V h5 (Nat.le_refl _) h6 h7 h8 h9
 have HS:Aside (SW enc K blk F O.toArray K/\O.length=N):=⟨SW.start R.hH,hN⟩;have ak:Aside (Ord (ltOf y)):=ho;clear aj ho R hN hN';go_enter Tryz.func193,Tryz.ntmps193;go_wp2
 go_loopg [7,8] N (fun g1 va vb wr=>∃(a:Nat) (D E:List α),va=.int .i64 a/\vb=.int .i64 ((a:Int)+20)/\a<=N/\N-a<=g1/\Aside (Full (ltOf y) 20 D/\D.length=a/\Same (ltOf y) O (D++E)/\(D++E).length=N/\SW enc K blk F (D++E).toArray wr))
 case atStart=>exact⟨0,[],O,rfl,by first|rfl|go_num,Nat.zero_le _,by omega,Full.nil,rfl,Same.refl _ _,HS.out.2,by simpa using HS.out.1⟩
 case round=>
  clear HS;obtain⟨a,D,E,rfl,rfl,aB,hg,H⟩:=hrel
  by_cases hlt:a+20<=N
  ·have ah:(a:Int)+20<=(N:Int):=by omega
   obtain⟨M,J,I⟩:∃M J,Aside (E=M++J/\M.length=20):=split_at E 20 (by have:=H.out.2.1;have V:=H.out.2.2.2.1;rw[List.length_append] at V;omega);go_wp2_with (go_at_call 201;fail);rw[show(a:Int)+20=((a+20:Nat):Int) by omega];refine(ao.out a (a+20) D M J wr (by have:=H.out.2.2.2.1;rw[I.out.1] at this;exact this) H.out.2.1 (by rw[I.out.2]) (by have:=H.out.2.2.2.2;rw[I.out.1] at this;exact this)).mono ?_;rintro e w2 ⟨rfl,M',q1,Z,q3⟩;have HF:Aside (Full (ltOf y) 20 (D++M')/\(D++M').length=a+20/\Same (ltOf y) O ((D++M')++J)/\((D++M')++J).length=N/\SW enc K blk F ((D++M')++J).toArray w2):=by
    obtain⟨k1,k2,k3,U,k5⟩:=H.out;have af:M'.length=20:=by rw[<-Z.len ak.out];exact I.out.2
    rw[I.out.1] at k3 U;refine⟨Full.snoc D M' k1 af q1,by rw[List.length_append,k2,af],?_,?_,by simpa using q3⟩
    ·rw[List.append_assoc];exact k3.trans ((Same.refl _ D).app (Z.app (Same.refl _ J)))
    ·simp only[List.length_append] at U⊢;rw[af,<-I.out.2];omega
   clear q1 Z q3 H;go_wp2
   go_roundg (N-(a+20))
   case measure=>omega
   case rel=>exact⟨a+20,D++M',J,by first|go_num|(congr 1;omega),by first|go_num|(congr 1;omega),by omega,Nat.le_refl _,HF⟩
  ·have ah:¬((a:Int)+20<=(N:Int)):=by omega
   go_wp2_with (go_at_call 201;fail);refine(ao.out a N D E [] wr (by simpa using H.out.2.2.2.1) H.out.2.1 (by have V:=H.out.2.2.2.1;rw[List.length_append,H.out.2.1] at V;omega) (by simpa using H.out.2.2.2.2)).mono ?_;rintro e w2 ⟨rfl,J,q1,Z,q3⟩;have HF:Aside (∃l,Blk (ltOf y) 20 l/\Same (ltOf y) O l/\l.length=N/\SW enc K blk F l.toArray w2):=by
    obtain⟨k1,k2,k3,U,k5⟩:=H.out;have aJ:J.length=E.length:=(Z.len ak.out).symm;refine⟨D++J,k1.blk (Blk.last J (by rw[List.length_append] at U;omega) q1),k3.trans ((Same.refl _ D).app Z),by rw[List.length_append] at U⊢;omega,by simpa using q3⟩
   clear q1 Z q3 H ah hlt;go_wp2
   go_loopg [6] N (fun g2 vb wr=>∃(h:Nat),vb=.int .i64 h/\0<h/\h<=2*N+20/\N-h<=g2/\Aside (∃l,Blk (ltOf y) h l/\Same (ltOf y) O l/\l.length=N/\SW enc K blk F l.toArray wr))
   case atStart=>exact⟨20,rfl,by omega,by omega,by omega,HF⟩
   case round=>
    clear HF;obtain⟨h,rfl,al,aM,aK,H⟩:=hrel
    by_cases hlt:h<N
    ·have ah:(h:Int)<(N:Int):=by omega
     have au:Aside (∃E,Full (ltOf y) (2*h) []/\([]:List α).length=0/\Blk (ltOf y) h E/\Same (ltOf y) O ([]++E)/\([]++E).length=N/\SW enc K blk F ([]++E).toArray wr):=by
      obtain⟨l,k1,k2,k3,U⟩:=H.out;exact⟨l,Full.nil,rfl,k1,k2,k3,by simpa using U⟩
     clear H;go_wp2
     go_loopg [7,8] N (fun g3 va vb wr=>∃(a:Nat) (D E:List α),va=.int .i64 a/\vb=.int .i64 ((a:Int)+2*(h:Int))/\a<=N/\N-a<=g3/\Aside (Full (ltOf y) (2*h) D/\D.length=a/\Blk (ltOf y) h E/\Same (ltOf y) O (D++E)/\(D++E).length=N/\SW enc K blk F (D++E).toArray wr))
     case atStart=>
      obtain⟨E,I⟩:=au.out;exact⟨0,[],E,rfl,by first|rfl|go_num|(congr 1;omega),Nat.zero_le _,by omega,I⟩
     case round=>
      clear au;obtain⟨a,D,E,rfl,rfl,aB,aI,H⟩:=hrel
      by_cases hle:a+2*h<=N
      ·have aw:(a:Int)+2*(h:Int)<=(N:Int):=by omega
       obtain⟨L,Q,J,I⟩:∃L Q J,Aside (E=L++(Q++J)/\L.length=h/\Q.length=h/\Sorted (ltOf y) L/\Sorted (ltOf y) Q/\Blk (ltOf y) h J):=H.out.2.2.1.two al (by have V:=H.out.2.2.2.2.1;rw[List.length_append,H.out.2.1] at V;omega);go_wp2_with (go_at_call 202;fail);rw[show(a:Int)+(h:Int)=((a+h:Nat):Int) by omega,show(a:Int)+2*(h:Int)=((a+2*h:Nat):Int) by omega];refine(ap.out a (a+h) (a+2*h) D L Q J wr H.out.2.1 (by rw[I.out.2.1]) (by rw[I.out.2.2.1];omega) (by rw[I.out.2.1];exact al) (by rw[I.out.2.2.1];exact al) (by have:=H.out.2.2.2.2.1;rw[I.out.1] at this;exact this) I.out.2.2.2.1 I.out.2.2.2.2.1 (by have:=H.out.2.2.2.2.2;rw[I.out.1] at this;exact this)).mono ?_;rintro e w3 ⟨rfl,M,q1,Z,q3⟩;have HF:Aside (Full (ltOf y) (2*h) (D++M)/\(D++M).length=a+2*h/\Blk (ltOf y) h J/\Same (ltOf y) O ((D++M)++J)/\((D++M)++J).length=N/\SW enc K blk F ((D++M)++J).toArray w3):=by
        obtain⟨k1,k2,k3,U,k5,k6⟩:=H.out;obtain⟨r1,r2,r3,r4,r5,r6⟩:=I.out;have af:M.length=2*h:=by rw[<-Z.len ak.out,List.length_append];omega
        rw[r1] at U k5;refine⟨Full.snoc D M k1 af q1,by rw[List.length_append,k2,af],r6,?_,?_,by simpa using q3⟩
        ·rw[List.append_assoc];refine U.trans ((Same.refl _ D).app ?_);rw[<-List.append_assoc];exact Z.app (Same.refl _ J)
        ·simp only[List.length_append] at k5⊢;omega
       clear q1 Z q3 H;go_wp2
       go_roundg (N-(a+2*h))
       case measure=>omega
       case rel=>exact⟨a+2*h,D++M,J,by first|go_num|(congr 1;omega),by first|go_num|(congr 1;omega),by omega,Nat.le_refl _,HF⟩
      ·have aw:¬((a:Int)+2*(h:Int)<=(N:Int)):=by omega
       by_cases hmn:a+h<N
       ·have aC:(a:Int)+(h:Int)<(N:Int):=by omega
        obtain⟨L,Q,I⟩:∃L Q,Aside (E=L++Q/\L.length=h/\0<Q.length/\Sorted (ltOf y) L/\Sorted (ltOf y) Q):=H.out.2.2.1.tail (by have V:=H.out.2.2.2.2.1;rw[List.length_append,H.out.2.1] at V;omega) (by have V:=H.out.2.2.2.2.1;rw[List.length_append,H.out.2.1] at V;omega);go_wp2_with (go_at_call 202;fail);rw[show(a:Int)+(h:Int)=((a+h:Nat):Int) by omega];refine(ap.out a (a+h) N D L Q [] wr H.out.2.1 (by rw[I.out.2.1]) (by have V:=H.out.2.2.2.2.1;rw[I.out.1,List.length_append,List.length_append,H.out.2.1,I.out.2.1] at V;omega) (by rw[I.out.2.1];exact al) I.out.2.2.1 (by have:=H.out.2.2.2.2.1;rw[I.out.1] at this;simpa using this) I.out.2.2.2.1 I.out.2.2.2.2 (by have:=H.out.2.2.2.2.2;rw[I.out.1] at this;simpa using this)).mono ?_;rintro e w3 ⟨rfl,M,q1,Z,q3⟩;have HF:Aside (∃l,Blk (ltOf y) (2*h) l/\Same (ltOf y) O l/\l.length=N/\SW enc K blk F l.toArray w3):=by
         obtain⟨k1,k2,k3,U,k5,k6⟩:=H.out;obtain⟨r1,r2,r3,r4,r5⟩:=I.out;have af:M.length=E.length:=by rw[r1,<-Z.len ak.out]
         rw[r1] at U;refine⟨D++M,k1.blk (Blk.last M (by rw[List.length_append] at k5;omega) q1),U.trans ((Same.refl _ D).app Z),by rw[List.length_append] at k5⊢;omega,by simpa using q3⟩
        clear q1 Z q3 H;go_wp2
        go_roundg (N-2*h)
        case measure=>omega
        case rel=>exact⟨2*h,by first|go_num|(congr 1;omega),by omega,by omega,Nat.le_refl _,HF⟩
       ·have aC:¬((a:Int)+(h:Int)<(N:Int)):=by omega
        have HF:Aside (∃l,Blk (ltOf y) (2*h) l/\Same (ltOf y) O l/\l.length=N/\SW enc K blk F l.toArray wr):=by
         obtain⟨k1,k2,k3,U,k5,k6⟩:=H.out;exact⟨D++E,k1.blk (Blk.last E (by rw[List.length_append] at k5;omega) (k3.whole (by rw[List.length_append] at k5;omega))),U,k5,k6⟩
        clear H;go_wp2
        go_roundg (N-2*h)
        case measure=>omega
        case rel=>exact⟨2*h,by first|go_num|(congr 1;omega),by omega,by omega,Nat.le_refl _,HF⟩
    ·have ah:¬((h:Int)<(N:Int)):=by omega
     go_wp2
     go_end0
     obtain⟨l,k1,k2,k3,U⟩:=H.out;exact⟨rfl,l,k1.whole (by omega),k2,U⟩
theorem sortStable_any (enc:α->Value) (y:α->α->Int) (g:Nat) (J:Array Value) (blk h I N:Nat) (F:List α) (D:World) (eg:∀args w,(callFunc g args).run Tryz.prog w=.ok (.enter g args) w) (H:CmpLays1 Tryz.prog g J enc y blk h F.toArray.size D) (K:Ord (ltOf y)) (R:Row1 enc D blk h F.toArray) (O:F.length=N) (V:N<1152921504606846976):
 Calls Tryz.prog 174 #[.slice (some ⟨blk,h,none⟩) N I,.func (.func g) #[] J] D fun e w'=>e=.returned (.tuple #[])/\∃l,Sorted (ltOf y) l/\Same (ltOf y) F l/\SW enc D blk h l.toArray w':=by
 have U:Aside (Calls Tryz.prog 193 #[.slice (some ⟨blk,h,none⟩) N I,.int .i64 N,.func (.func g) #[] J] D fun e w'=>e=.returned (.tuple #[])/\∃l,Sorted (ltOf y) l/\Same (ltOf y) F l/\SW enc D blk h l.toArray w'):=stable_any enc y g J blk h I N F D eg H K R O V;clear H K R O;go_enter Tryz.func174,Tryz.ntmps174;go_wp2_with (go_at_call 193;fail);refine U.out.mono ?_;rintro e Z ⟨rfl,M⟩;have HF:Aside (∃l,Sorted (ltOf y) l/\Same (ltOf y) F l/\SW enc D blk h l.toArray Z):=M;clear M;go_wp2
 go_end0
 exact⟨rfl,HF.out⟩
end Stb
end Go.Proofs.YtjlgejennghhlaaGreatDoor
