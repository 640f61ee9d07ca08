import Derived.Test.YtjlgejennghhlaaGreatDoorR01
import Derived.Test.YtjlgejennghhlaaGreatDoorR49
import Derived.Test.YtjlgejennghhlaaGreatDoorR04
set_option linter.unusedSimpArgs false
set_option linter.unusedVariables false
set_option linter.unusedSectionVars false
set_option maxRecDepth 1000000
set_option maxHeartbeats 16000000
namespace Go.Proofs.YtjlgejennghhlaaGreatDoor
open Go.RowKit
def Qix (e:Ending) (w':World):Except (Int×Nat) (List Cl×List (List V3))->Prop
 |.ok (cs,rs)=>∃vc vr,e=.returned (.tuple #[.agg #[vc,vr],.nilIface])/\Qax w' vc cs/\Qch w' vr (rs.map (·.map vl))
 |.error (x,p)=>∃N,e=.returned (.tuple #[.agg #[.slice none 0 0,.slice none 0 0],.iface 100 (.pointer (some ⟨N,0,none⟩))])/\N<w'.heap.size/\w'.cell? ⟨N,0,none⟩=some (.int .i64 x)/\w'.cell? ⟨N,1,none⟩=some (.int .i64 (p:Int))
theorem Qff {h:World} {R N:Nat} {x:Int} {p:Nat} {u v:Value} (F:N<h.heap.size) (y:R<N) (E:h.cell? ⟨N,0,none⟩=some (.int .i64 x)) (D:h.cell? ⟨N,1,none⟩=some (.int .i64 (p:Int))):
 Qix (.returned (.tuple #[.agg #[.slice none 0 0,.slice none 0 0],.iface 100 (.pointer (some ⟨N,0,none⟩))])) ((h.setCell ⟨R,0,none⟩ u).setCell ⟨R,1,none⟩ v) (.error (x,p)):=Qft F y E D
theorem Qiy {w:World} {tb:Nat} {H:Value} {us:List Value} {acc:List (List V3)} (h:w.ownsRow (tb+1) 84 1 H acc.length us) (F:Qfs w (tb+1) us acc) (I:∀r∈acc,∀x∈r,x.2.2.length<=16):Qch w H (acc.map (·.map vl)):=by
 have E:(acc.map (·.map vl)).length=acc.length:=List.length_map _;refine Pl.Ev.rowsC_of (B:=tb+1) (us:=us) (by rw[E];exact h) ⟨by rw[E];exact F.1,fun j hj hj'=>?_⟩;have D:j<acc.length:=by rw[<-E];exact hj'
 have:=F.2 j hj D;refine⟨by simpa using this,fun x hx=>?_⟩;rw[List.getElem_map] at hx;obtain⟨y,J,rfl⟩:=List.mem_map.1 hx;have:=I _ (List.getElem_mem D) y J;exact Nat.le_trans (show y.2.2.length<=16 from this) (by decide)
theorem Qlq (s:ByteArray) (w:World) (hs:s.size<=100000) (hE:Env w):
 Calls Tryz.prog 18 #[.string s] w fun e w'=>Below w.heap.size w w'/\Qix e w' (QhC s.data.toList):=by
 have HE:=Hk hE;clear hE;have aJ:Env (w.alloc (.cells #[.slice none 0 0,.slice none 0 0] 54)):=HE.out.below (Qaa _ _);have a7:=Hk (Qfk s ⟨#[10]⟩ (w.alloc (.cells #[.slice none 0 0,.slice none 0 0] 54)) (by omega) aJ);have a9:=Hk aJ;clear aJ;go_enter Tryz.func18,Tryz.ntmps18;go_wp2_with (first|(go_at_call 47;refine a7.out.mono ?_;rintro e w1 ⟨rfl,ar⟩;obtain⟨aM,aV⟩:=QaQ ar)|(go_at_call 48;fail));have aW:=Qfn s.data.toList [10];have bg:s.data.toList.length=s.size:=by simp
 generalize hx:Lib.cut s.data.toList [10]=x at*;obtain⟨h,r,en⟩:=x;have HX:=Hk (Qfu hx);have ci:h.length<=100000:=by have:=aW.1;simp only at this;omega
 have cq:r.length<=s.size:=by have:=aW.2;simp only at this;omega
 have bS:=Hk bg;clear hx aW bg a7;have aT:=Hk (a9.out.below ar);have hR:w.heap.size<w1.heap.size:=by have:=ar.size;simp at this;omega
 have q0:w1.cell? ⟨w.heap.size,0,none⟩=some (.slice none 0 0):=(aM _ _ (by simp)).trans (by simp);have q1:w1.cell? ⟨w.heap.size,1,none⟩=some (.slice none 0 0):=(aM _ _ (by simp)).trans (by simp);have z0:w1.frozen? ⟨w.heap.size,0,none⟩=false:=(aV _ _ (by simp)).trans (by simp);have z1:w1.frozen? ⟨w.heap.size,1,none⟩=false:=(aV _ _ (by simp)).trans (by simp);have b1:Below w.heap.size w w1:=(Qaa w _).trans (ar.mono (by simp));have aS:=Hk b1;clear aM aV ar b1;refine(QdV ⟨h.toArray⟩ w1 (by simp[ByteArray.size];omega) aT.out).mono ?_;rintro e E ⟨ag,ao⟩;unfold Qfo at ao;obtain⟨ab,aA⟩:=QaQ ag;have s2:=ag.size;have K:w.heap.size<E.heap.size:=by omega
 by_cases g:Qaj (colsOf ⟨h.toArray⟩)=true
 ·rw[if_pos g] at ao;obtain⟨vc,rfl,aj,aQ⟩:=ao;have Z:=HX.out;rw[if_pos g] at Z;have ac:=Hk Z;have aH:=Qbr g;clear HX Z;generalize colsOf ⟨h.toArray⟩=cs at*;have aU:=Qbm aj aQ;obtain⟨-,cg|⟨g1,al,ax,rfl,co,bx,b2,-⟩⟩:=id aj
  ·omega
  ·have bb:=(aj.lt g1 rfl).2;have aB:Qau E g1 0 cs:=by
    obtain⟨a,c,e1,-,-,hh⟩:=aU;rcases hh with hh|⟨b,o,e2,hl,aB⟩
    ·rw[hh] at aH;simp at aH
    ·rw[e2] at e1;simp only[Value.slice.injEq,Option.some.injEq,Addr.mk.injEq,and_true,true_and] at e1;obtain⟨⟨rfl,rfl⟩,-⟩:=e1;exact aB
   have bd:=Hk aj;have be:=Hk aB;have bI:=Hk aQ;clear aj aB aQ aU bx ax;have q0':=(ab _ 0 hR).trans q0;have q1':=(ab _ 1 hR).trans q1;have z0':=(aA _ 0 hR).trans z0;have z1':=(aA _ 1 hR).trans z1;have hb2':=Hk ag;clear ab aA ag q0 q1 z0 z1;go_wp2;obtain⟨W,hW⟩:∃W,W=E.alloc (.cells #[.slice (some ⟨g1,0,none⟩) cs.length al,.slice none 0 0] 54):=⟨_,rfl⟩;rw[<-hW];have F:Below E.heap.size E W:=by rw[hW];exact Qaa _ _
   have bh:Qgo W W E.heap.size (.slice (some ⟨g1,0,none⟩) cs.length al) (.slice none 0 0) [] []:=by
    rw[hW];exact⟨by simp,by simp,by simp,by simp,World.ownsRow_nil _ _ _ _,⟨rfl,fun j hj=>absurd hj (by simp)⟩,by simp,Below.refl _ _⟩
   have bU:=Hk (bel_then (bel_then aS.out hb2'.out) F);have ct:=Hk ((aT.out.below hb2'.out).below F);have bk:=Hk (be.out.below F bb);have bv:=Hk (owns_below bd.out F);have y0:=cK F K q0';have y1:=cK F K q1';have x0:=(F.frozen (p:=⟨w.heap.size,0,none⟩) K).trans z0';have x1:=(F.frozen (p:=⟨w.heap.size,1,none⟩) K).trans z1';have Y0:=Hk y0;have Y1:=Hk y1;have X0:=Hk x0;have X1:=Hk x1;clear y0 y1 x0 x1 q0' q1' z0' z1' hW hb2' a9 aT aS bd be;obtain⟨i0,hi,bD,bT,bK⟩:=info_parts Tryz.infoRow;have bR:=Hk bh;clear bh F;go_loopw [5,6] (fun rv mv wr=>∃(rest:List UInt8) (ay:Bool) (acc:List (List V3)) (us:List Value) (vr:Value) (f:Nat),rv=.string ⟨rest.toArray⟩/\mv=.bool ay/\rest.length<f/\rest.length<=100000/\acc.length<=60/\QaL cs (s.data.toList.length+1) [] r en=QaL cs f acc rest ay/\Qgo wr W E.heap.size (.slice (some ⟨g1,0,none⟩) cs.length al) vr us acc) (fun rv _ _=>Qjs rv)
   case atStart=>exact⟨r,en,[],[],_,s.data.toList.length+1,rfl,rfl,by have:=bS.out;omega,by omega,by simp,rfl,bR.out⟩
   case round=>
    obtain⟨rest,ay,acc,us,vr,f,rfl,rfl,hf,ce,ck,aK,aN⟩:=hrel;obtain⟨f,rfl⟩:∃f',f=f'+1:=⟨f-1,by omega⟩;have HM:=Hk aN;have O:=Hk aK;obtain⟨m1,m2,m3,m4,m5,-,-,m8⟩:=aN;obtain⟨va,au,rfl⟩:∃a c,vr=.slice a acc.length c:=by
     obtain⟨-,⟨rfl,hn⟩|⟨g,cp,ax,rfl,-⟩⟩:=m5
     ·exact⟨none,0,by rw[hn]⟩
     ·exact⟨_,_,rfl⟩
    have aP:=Hk m5;have M8:=Hk m8;clear aK m5 m8;have r0:=cK M8.out K Y0.out;have r1:=cK M8.out K Y1.out;have cr:=(M8.out.frozen (p:=⟨w.heap.size,0,none⟩) K).trans X0.out;have cu:=(M8.out.frozen (p:=⟨w.heap.size,1,none⟩) K).trans X1.out;have aa:w.heap.size<wr.heap.size:=by omega
    have a8:Below w.heap.size w wr:=bU.out.trans (M8.out.mono (by omega));have ai:=Hk a8;clear a8
    cases ay
    ·go_wp2_with (go_at_call 49;refine(wrong_any _ _ _).mono ?_;rintro e w3 ⟨rfl,hw,U,N,D⟩;obtain⟨y,I⟩:=QaQ D);have c0:=(y w.heap.size 0 aa).trans r0;have c1:=(y w.heap.size 1 aa).trans r1;clear y I;refine bodyPost_ret (v:=.tuple #[.agg #[.slice none 0 0,.slice none 0 0],.iface 100 (.pointer (some ⟨wr.heap.size+1,0,none⟩))]) (by simp[results,Tryz.results18,go_sem,c0,c1]) rfl ⟨?_,?_⟩
     ·exact((bel_then ai.out D).setCell (Nat.le_refl _) _).setCell (Nat.le_refl _) _
     ·rw[ac.out,O.out,QhE];exact Qff (p:=1+acc.length) hw (by omega) U (by rw[Int.natCast_add];exact N)
    ·by_cases hre:rest=[]
     ·subst hre;go_wp2;refine bodyPost_ret (v:=.tuple #[.agg #[.slice (some ⟨g1,0,none⟩) cs.length al,.slice va acc.length au],.nilIface]) (by simp[results,Tryz.results18,go_sem,r0,r1]) rfl ⟨?_,?_⟩
      ·exact(ai.out.setCell (Nat.le_refl _) _).setCell (Nat.le_refl _) _
      ·rw[ac.out,O.out,Qfv];obtain⟨-,-,-,-,m5,m6,m7,m8⟩:=HM.out;refine⟨_,_,rfl,?_,?_⟩
       ·refine Qbm (base:=w1.heap.size) ?_ bI.out;refine ownsRow_setCell_below (ownsRow_setCell_below (Qgp bv.out m8 (fun k hk=>?_)) (by exact hR) _) (by exact hR) _;simp only[Value.ownBlock,Option.some.injEq] at hk;omega
       ·exact Qiy (tb:=E.heap.size) (ownsRow_setCell_below (ownsRow_setCell_below m5 (by show w.heap.size<_;omega) _) (by show w.heap.size<_;omega) _) (Qe4 (Qe4 m6 (by omega)) (by omega)) m7
     ·have cj:rest.isEmpty=false:=by cases rest<;>simp_all
      have cm:=Qfn rest [10];have aO:=Hk (Qjt rest hre);have aR:Hid (Calls Tryz.prog 47 #[.string ⟨rest.toArray⟩,.string ⟨#[10]⟩] wr fun e w'=>e=.returned (.tuple #[.string ⟨(Lib.cut rest [10]).1.toArray⟩,.string ⟨(Lib.cut rest [10]).2.1.toArray⟩,.bool (Lib.cut rest [10]).2.2])/\Below wr.heap.size wr w'):=Qfk ⟨rest.toArray⟩ ⟨#[10]⟩ wr (by simp[ByteArray.size];omega) (HE.out.below ai.out);go_wp2_with (first|(go_at_call 47;refine aR.out.mono ?_;rintro e w3 ⟨rfl,D⟩;obtain⟨y,I⟩:=QaQ D)|(go_at_call 50;fail));have bF:g1<w3.heap.size:=by have:=D.size;omega
      have a6:=Hk (Qfr ⟨(Lib.cut rest [10]).1.toArray⟩ g1 0 cs.length al cs w3 (by simp[ByteArray.size];omega) ((HE.out.below ai.out).below D) rfl (by omega) bF ((bk.out.below M8.out bb).below D (by omega)));refine a6.out.mono ?_;rintro e w4 ⟨ad,H⟩;clear a6 aR;obtain⟨J,az⟩:=QaQ ad;have aw:w.heap.size<w3.heap.size:=by have:=D.size;omega
      have aC:w.heap.size<w4.heap.size:=by have:=ad.size;omega
      have bi:E.heap.size<w3.heap.size:=by have:=D.size;omega
      have bj:E.heap.size<w4.heap.size:=by have:=ad.size;omega
      have b4:=Hk (bel_then (bel_then ai.out D) ad);rw[show(ByteArray.mk (Lib.cut rest [10]).1.toArray).data.toList=(Lib.cut rest [10]).1 from rfl] at H
      cases hrow:QaW cs (Lib.cut rest [10]).1 false with
      |none=>
       rw[hrow] at H;have br:e=_:=H;subst br;have ae:=Hk hrow;clear H hrow;go_wp2_with (go_at_call 49;refine(wrong_any _ _ _).mono ?_;rintro e w5 ⟨rfl,hw,U,N,am⟩;obtain⟨V,aL⟩:=QaQ am);have c0:=(V w.heap.size 0 aC).trans ((J _ _ aw).trans ((y _ _ aa).trans r0));have c1:=(V w.heap.size 1 aC).trans ((J _ _ aw).trans ((y _ _ aa).trans r1));clear y I J az V aL;refine bodyPost_ret (v:=.tuple #[.agg #[.slice none 0 0,.slice none 0 0],.iface 100 (.pointer (some ⟨w4.heap.size+1,0,none⟩))]) (by simp[results,Tryz.results18,go_sem,c0,c1]) rfl ⟨?_,?_⟩
       ·exact((bel_then b4.out am).setCell (Nat.le_refl _) _).setCell (Nat.le_refl _) _
       ·rw[ac.out,O.out,QhD hre ae.out];exact Qff (p:=1+acc.length) hw (by omega) U (by rw[Int.natCast_add];exact N)
      |some row=>
       rw[hrow] at H;obtain⟨u,rfl,hu,bO⟩:=H;obtain⟨ua,bu,bV⟩:∃a c,u=.slice a row.length c:=by
        obtain⟨-,⟨rfl,hn⟩|⟨g,cp,ax,rfl,-⟩⟩:=hu
        ·exact⟨none,0,by rw[hn]⟩
        ·exact⟨_,_,rfl⟩
       subst bV;have ae:=Hk hrow;have HU:=Hk hu;clear hrow hu
       by_cases h60':acc.length=60
       ·have bJ:((acc.length:Int)==60)=true:=by simp;omega
        go_wp2_with (go_at_call 49;refine(wrong_any _ _ _).mono ?_;rintro e w5 ⟨rfl,hw,U,N,am⟩;obtain⟨V,aL⟩:=QaQ am);have c0:=(V w.heap.size 0 aC).trans ((J _ _ aw).trans ((y _ _ aa).trans r0));have c1:=(V w.heap.size 1 aC).trans ((J _ _ aw).trans ((y _ _ aa).trans r1));clear y I J az V aL;refine bodyPost_ret (v:=.tuple #[.agg #[.slice none 0 0,.slice none 0 0],.iface 100 (.pointer (some ⟨w4.heap.size+1,0,none⟩))]) (by simp[results,Tryz.results18,go_sem,c0,c1]) rfl ⟨?_,?_⟩
        ·exact((bel_then b4.out am).setCell (Nat.le_refl _) _).setCell (Nat.le_refl _) _
        ·rw[ac.out,O.out,Qgq hre ae.out h60'];exact Qff (p:=1+acc.length) hw (by omega) U (by rw[h60'];exact N)
       ·have bJ:((acc.length:Int)==60)=false:=by simp;omega
        have aZ:=Hk (QcB (f:=f) hre ae.out h60');go_wp2_with (at_builtin;refine wpList_append_own _ rfl _ _ 52 rfl (E.heap.size+1) 84 i0 (.slice none 0 0) 1 24 Tryz.underlying52 hi bD bT bK rfl (by decide) _ _ _ rfl ((owns_below (owns_below aP.out D) ad).alloc _) ⟨w4.heap.size,0,none⟩ 1 1 [.slice ua row.length bu] rfl rfl ?c1 ?c2 ?c3 ?c4 ?c5 ?_)
        case c1=>
         intro j u hj
         match j,hj with
         |0,hj=>simp at hj;subst hj;simp[Addr.add]
        case c2=>intro u hu;simp at hu;subst hu;rfl
        case c3=>unfold maxLen;omega
        case c4=>omega
        case c5=>simp;omega
        ·intro v' w5 af M _;have bf:=Qjr HM.out D ad HU.out bO _ af M;obtain⟨cn,bY,rfl⟩:∃a c,v'=.slice a (acc.length+1) c:=by
          obtain⟨-,⟨rfl,hn⟩|⟨g,cp,ax,rfl,-⟩⟩:=af
          ·omega
          ·exact⟨_,_,rfl⟩
         have bX:=Hk bf;have a5:some E.heap.size≠(Value.slice va acc.length au).ownBlock:=fun e=>by have:=(aP.out.lt _ e.symm).1;omega
         have t1:w5.cell? ⟨E.heap.size,1,none⟩=some (.slice va acc.length au):=M.cell (a:=⟨E.heap.size,1,none⟩) (by rw[World.cell?_alloc_past _ _ _ bj];exact(J _ _ bi).trans ((y _ _ m1).trans m3)) a5;have t2:w5.frozen? ⟨E.heap.size,1,none⟩=false:=by
          rw[World.frozen?_of_block (w:=w4.alloc _) (w':=w5) (a:=⟨E.heap.size,1,none⟩) (M.block E.heap.size (by simp;omega) a5)];rw[World.frozen?_of_block (w:=w4) (w':=w4.alloc _) (a:=⟨E.heap.size,1,none⟩) (Below.heap_alloc _ _ _ bj)];exact(az _ _ bi).trans ((I _ _ m1).trans m4)
         clear bf af M y I J az;go_wp2;go_roundw
         case rel=>exact⟨(Lib.cut rest [10]).2.1,(Lib.cut rest [10]).2.2,acc++[row],_,_,f,rfl,rfl,by have:=aO.out;omega,by have:=aO.out;omega,by simp;omega,by rw[O.out,aZ.out],bX.out⟩
         case measure=>have:=aO.out;simpa [Qjs,ByteArray.size] using this
 ·rw[if_neg g] at ao;subst ao;have Z:=HX.out;rw[if_neg g] at Z;have ac:=Hk Z;clear HX Z;go_wp2_with (go_at_call 49;refine(wrong_any _ _ _).mono ?_;rintro e w3 ⟨rfl,hw,U,N,D⟩;obtain⟨y,I⟩:=QaQ D);have c0:=(y w.heap.size 0 (by omega)).trans ((ab _ _ hR).trans q0);have c1:=(y w.heap.size 1 (by omega)).trans ((ab _ _ hR).trans q1);clear y I ab aA;refine bodyPost_ret (v:=.tuple #[.agg #[.slice none 0 0,.slice none 0 0],.iface 100 (.pointer (some ⟨E.heap.size+1,0,none⟩))]) (by simp[results,Tryz.results18,go_sem,c0,c1]) rfl ⟨?_,?_⟩
  ·exact((bel_then (bel_then aS.out ag) D).setCell (Nat.le_refl _) _).setCell (Nat.le_refl _) _
  ·rw[ac.out];exact Qff hw (by omega) U N
end Go.Proofs.YtjlgejennghhlaaGreatDoor
