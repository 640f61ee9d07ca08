import Derived.Deep.MidRow
import Derived.Test.YtjlgejennghhlaaGreatDoorQ01
import Derived.Test.YtjlgejennghhlaaGreatDoorQ23
import Derived.Test.YtjlgejennghhlaaGreatDoorQ13
import Derived.Test.YtjlgejennghhlaaGreatDoorQ28
import Derived.Test.YtjlgejennghhlaaGreatDoorQ29
import Derived.Test.YtjlgejennghhlaaGreatDoorQ25
import Derived.Test.YtjlgejennghhlaaGreatDoorQ20
import Derived.Test.YtjlgejennghhlaaGreatDoorQ08
set_option linter.unusedSimpArgs false
set_option linter.unusedVariables false
set_option linter.unusedSectionVars false
set_option maxRecDepth 1000000
set_option maxHeartbeats 16000000
namespace Go.Proofs.YtjlgejennghhlaaGreatDoor
open Go.RowKit
open Go.Sort (grow putRow putCells Holds)
def Kept (v:Value) (w w':World):Prop:=∀p:Addr,p.block<w.heap.size->v.ownBlock≠some p.block->w'.cell? p=w.cell? p
theorem Qjr (v:Value) (w:World) (o:Obj):Kept v w (w.alloc o):=fun p hp _=>(Qaa w o).cell hp
theorem Kept.below {v:Value} {w w' y:World} (h:Kept v w w') (F:Below w'.heap.size w' y) (D:w.heap.size<=w'.heap.size):Kept v w y:=fun p hp hne=>(F.cell (Nat.lt_of_lt_of_le hp D)).trans (h p hp hne)
theorem QfF (v D:Value) (us:List Value) (rs:List (List Vl)) (B B2 m:Nat) (F:List Nat) (w:World) (hv:w.ownsRow B 84 1 v rs.length us) (hH:Qab w B us rs) (hl:∀r∈rs,r.length=m) (h1:1<=m) (h6:m<=100) (bG:rs.length<=100) (Z:w.ownsRow B2 3 1 D F.length (intCells F)) (a0:0<F.length) (a1:F.length<=100) (al:∀k∈F,k<m) (ao:B<=w.heap.size):
 Calls Tryz.prog 144 #[v,D] w fun e w'=>∃I H,e=.returned v/\Stb.Sorted (ltR F) H/\Stb.Same (ltR F) rs H/\w'.ownsRow B 84 1 v rs.length I/\Qab w' B I H/\Below B w w'/\Kept v w w':=by
 have bK:=mkF;obtain⟨aa,aZ,rfl⟩:=own_slice Z;obtain⟨D,aw⟩:∃q,q=Value.slice aa F.length aZ:=⟨_,rfl⟩;rw[<-aw] at Z⊢;have hS:∃a c,v=.slice a rs.length c/\Calls Tryz.prog 174 #[.slice a rs.length c,.func (.func 175) #[] #[.pointer (some ⟨w.heap.size,0,none⟩)]] (w.alloc (.cells #[D] 73)) fun e w'=>e=.returned (.tuple #[])/\∃I H,Stb.Sorted (ltR F) H/\Stb.Same (ltR F) rs H/\w'.ownsRow B 84 1 (.slice a rs.length c) rs.length I/\Qab w' B I H/\Below B w w'/\Kept (.slice a rs.length c) w w':=by
  obtain⟨ay,⟨rfl,y⟩|⟨g,V,aj,rfl,aB,K,aL,aJ,aH,af⟩⟩:=hv
  ·refine⟨none,0,by rw[y],?_⟩;rw[y];refine(QdY none 0 _ _).mono ?_;rintro e w' ⟨rfl,rfl⟩;have ad:rs=[]:=List.length_eq_zero_iff.1 y;refine⟨rfl,[],rs,by rw[ad];exact List.Pairwise.nil,Stb.Same.refl _ _,World.ownsRow_nil _ _ _ _,by rw[ad];exact Qab.nil _ _,(Below.refl _ _).alloc ao _,Qjr _ _ _⟩
  ·refine⟨some ⟨g,0,none⟩,V,rfl,?_⟩;have aG:g<w.heap.size:=(Array.getElem?_eq_some_iff.1 K).1;rcases Nat.eq_zero_or_pos rs.length with y|br
   ·rw[y];refine(QdY _ V _ _).mono ?_;rintro e w' ⟨rfl,rfl⟩;have ad:rs=[]:=List.length_eq_zero_iff.1 y;have bI:us=[]:=List.length_eq_zero_iff.1 (by rw[ay,y]);have ho:w.ownsRow B 84 1 (.slice (some ⟨g,0,none⟩) 0 V) 0 us:=⟨by rw[ay,y],.inr ⟨g,V,aj,by rw[<-y],aB,K,by omega,aJ,aH,by rw[y] at af;exact af⟩⟩;exact⟨rfl,us,rs,by rw[ad];exact List.Pairwise.nil,Stb.Same.refl _ _,ho.alloc _,hH.below (Qaa _ _),(Below.refl _ _).alloc ao _,Qjr _ _ _⟩
   ·obtain⟨n,y⟩:∃n,rs.length=n+1:=⟨rs.length-1,by omega⟩;have M:us.length=n+1:=by rw[ay,y];omega
    have aI:∀k,k<w.heap.size->(w.alloc (.cells #[D] 73)).heap[k]? =w.heap[k]?:=(Qaa w _).block
    let enc:Fin (n+1)->Value:=fun i=>us[i.1]'(by rw[M];exact i.2)
    let row:Fin (n+1)->List Vl:=fun i=>rs[i.1]'(by rw[y];exact i.2)
    let cf:Fin (n+1)->Fin (n+1)->Int:=fun i j=>QdA F (row i) (row j)
    have N:∀i:Fin (n+1),∃b c cu,enc i=.slice (some ⟨b,0,none⟩) (row i).length c/\w.heap[b]? =some (.cells cu 46 (0,0))/\b<w.heap.size/\QaR w b 0 (row i)/\(row i).length=m/\b≠g:=by
     intro i;have hi:i.1<rs.length:=by rw[y];exact i.2
     have ai:(row i).length=m:=hl _ (List.getElem_mem hi);obtain⟨b,c,cu,q1,q2,q3,q4⟩:=Qjm (hH.2 i.1 (by rw[M];exact i.2) hi).1 (hH.2 i.1 (by rw[M];exact i.2) hi).2 (by have:rs[i.1].length=m:=ai;omega);refine⟨b,c,cu,q1,q2,q3,q4,ai,?_⟩;rintro rfl;rw[K] at q2;simp at q2
    have ap:(List.finRange (n+1)).length=rs.length:=by rw[List.length_finRange,y]
    have bJ:(List.finRange (n+1)).map enc=us:=by
     refine List.ext_getElem (by simp[M]) fun k h1 h2=>?_
     simp[enc]
    have bb:(List.finRange (n+1)).map row=rs:=by
     refine List.ext_getElem (by simp[y]) fun k h1 h2=>?_
     simp[row]
    have hO:OneCell enc:=by
     intro i;obtain⟨b,c,cu,q1,-⟩:=N i;rw[q1];rfl
    have a2:Holds enc (w.alloc (.cells #[D] 73)) g 0 (List.finRange (n+1)).toArray:=by
     intro j O;have hj':j<rs.length:=by rw[<-ap];simpa using O
     have hh:(w.alloc (.cells #[D] 73)).heap[g]? =some (.cells aj 84 (0,0)):=(aI g aG).trans K;refine⟨?_,by simp[World.frozen?,hh]⟩;have h1:(aj.toList.take rs.length)[j]? =us[j]?:=by rw[Nat.mul_one] at af;rw[af]
     rw[List.getElem?_take_of_lt hj'] at h1;simp only[World.cell?,hh,Nat.zero_add];simp only[Option.isSome_none,Bool.false_eq_true,if_false];rw[<-Array.getElem?_toList,h1,List.getElem?_eq_getElem (by rw[M];omega)];simp[enc,getElem!_pos,show j<n+1 by omega]
    have hR:Row1 enc (w.alloc (.cells #[D] 73)) g 0 (List.finRange (n+1)).toArray:=⟨hO,a2,by simp;omega⟩;obtain⟨ab,ac,aK,-,aS,aY⟩:=QdG Z a0;have a4:ab≠g:=by
     obtain⟨-,⟨-,h0⟩|⟨g',bn,bm,ak,-,ax,-,-,-,-⟩⟩:=Z
     ·omega
     rw[aK] at ak;simp only[Value.slice.injEq,Option.some.injEq,Addr.mk.injEq] at ak;obtain⟨⟨rfl,-⟩,-,-⟩:=ak;rintro rfl;rw[K] at ax;simp at ax
    have aR:CmpLays1 Tryz.prog 175 #[.pointer (some ⟨w.heap.size,0,none⟩)] enc cf g 0 (List.finRange (n+1)).toArray.size (w.alloc (.cells #[D] 73)):=by
     intro q os dk bF i j;obtain⟨b,c,cu,e1,e2,e3,e4,e5,e6⟩:=N i;obtain⟨b',c',bH,f1,f2,f3,f4,f5,f6⟩:=N j;have J:∀a:Addr,a.block≠g->a.block<w.heap.size->(sortWorld enc (w.alloc (.cells #[D] 73)) g 0 q dk os).cell? a=w.cell? a:=fun a h h'=>(Qbp enc _ g q dk os a h (by simp;omega)).trans ((Qaa w _).cell h')
     have bE:w.heap.size+1<=(sortWorld enc (w.alloc (.cells #[D] 73)) g 0 q dk os).heap.size:=by unfold sortWorld;simp
     have a5:(sortWorld enc (w.alloc (.cells #[D] 73)) g 0 q dk os).cell? ⟨w.heap.size,0,none⟩=some (.slice (some ⟨ab,0,none⟩) F.length ac):=by
      rw[Qbp enc _ g q dk os _ (by show w.heap.size≠g;omega) (by simp),<-aK];simp
     have hh:=QfB b 0 c b' 0 c' ab 0 ac w.heap.size (row i) (row j) F (sortWorld enc (w.alloc (.cells #[D] 73)) g 0 q dk os) (by omega) (fun k U=>by obtain⟨z0,z1,z2⟩:=e4 k U;exact⟨(J _ e6 e3).trans z0,(J _ e6 e3).trans z1,(J _ e6 e3).trans z2⟩) (by omega) (fun k U=>by obtain⟨z0,z1,z2⟩:=f4 k U;exact⟨(J _ f6 f3).trans z0,(J _ f6 f3).trans z1,(J _ f6 f3).trans z2⟩) (by omega) (fun k U=>(J _ a4 aS).trans (aY k U)) (by omega) a5 (by rw[e5];exact al) (by rw[f5];exact al) a1 (by omega) (by omega);rw[e1,f1];exact hh
    have ho:Stb.Ord (ltOf cf):=⟨fun a b h=>(Qjl F).asymm _ _ h,fun a b c h h'=>(Qjl F).ntrans _ _ _ h h'⟩;refine(Stb.sortStable_any enc cf 175 #[.pointer (some ⟨w.heap.size,0,none⟩)] g 0 V rs.length (List.finRange (n+1)) (w.alloc (.cells #[D] 73)) ?eg aR ho hR ap (by omega)).mono ?_
    case eg=>intro args W;first|rfl|kernel_rfl
    rintro e w' ⟨rfl,l,s1,s2,ae⟩;refine⟨rfl,l.map enc,l.map row,Stb.Sorted.map row s1,?_,?_,?_,?_,?_⟩
    ·have:=Stb.Same.map (Qjl F) row s2;rw[bb] at this;exact this
    ·obtain⟨q,os,rfl⟩:=ae;have a9:l.length=rs.length:=by rw[<-s2.len ho,ap]
     unfold sortWorld;exact owns_srt a9 aB ((aI g aG).trans K) aL aJ aH
    ·obtain⟨q,os,rfl⟩:=ae;refine⟨by simp,fun j O hj'=>?_⟩;simp only[List.getElem_map];have hi:(l[j]'(by simpa using O)).1<rs.length:=by rw[y];exact(l[j]'(by simpa using O)).2
     have U:=hH.2 (l[j]'(by simpa using O)).1 (by rw[M];exact(l[j]'(by simpa using O)).2) hi;obtain⟨b,c,cu,e1,e2,e3,e4,e5,e6⟩:=N (l[j]'(by simpa using O));refine⟨(U.1.alloc _).kept (grown_srt (enc:=enc) (n:=q) (os:=os) l.toArray) ?_,U.2⟩;refine Or.inr ?_
     show(enc (l[j]'(by simpa using O))).ownBlock≠_
     rw[e1]
     show some b≠some g
     intro e;exact e6 (Option.some.inj e)
    ·obtain⟨q,os,rfl⟩:=ae;have bi:Below B w (w.alloc (.cells #[D] 73)):=(Below.refl _ _).alloc ao _;have bh:=grown_srt (enc:=enc) (w:=w.alloc (.cells #[D] 73)) (g:=g) (n:=q) (os:=os) l.toArray;exact bi.grown bh (by simp;omega) (fun z hz=>by cases hz;exact aB)
    ·obtain⟨q,os,rfl⟩:=ae;intro p hp aX;have bd:p.block≠g:=fun e=>aX (by rw[e];rfl)
     exact(Qbp enc _ g q l.toArray os p bd (by simp;omega)).trans ((Qaa w _).cell hp)
 obtain⟨a,c,rfl,hS⟩:=hS;subst aw;have HS:=Hk hS;clear hS hv hH hl al Z;go_enter Tryz.func144,Tryz.ntmps144;go_wp2_with (go_at_call 174;fail);refine HS.out.mono ?_;rintro e w2 ⟨rfl,hq⟩;have HF:=Hk hq;clear hq;go_wp2;go_ret;obtain⟨I,H,q1,q2,q3,q4,q5,q6⟩:=HF.out;exact⟨I,H,rfl,q1,q2,q3,q4,q5,q6⟩
end Go.Proofs.YtjlgejennghhlaaGreatDoor
namespace Go.Proofs.YtjlgejennghhlaaGreatDoor
open Go.RowKit
def Qd6 (t:Tb) (j:Jb) (nm:List UInt8):Int:=if Qae t.1 t.2=false then 1 else if QbV t.1 j nm≠0 then QbV t.1 j nm else if(∀r∈t.2,Qaz (QiU t.1 j r)) then 0 else 2
theorem Qjw {t:Tb} {j:Jb} {w:World} (oa:Option Addr) (oc:Nat) (nm:ByteArray) (D J Z:Nat) (y:j.code=2) (U:j.outs=.slice oa 1 oc) (K:j.cols=.slice (some ⟨D,J,none⟩) 1 Z) (ag:w.cell? ⟨D,J,none⟩=some (.string nm)) (M:D<w.heap.size) (ab:inS Qbr j.op.data.toList=true) (hx:j.left.2.2.2.size<=maxLen) (V:j.right.2.2.2.size<=maxLen) (hr:Qae t.1 t.2=true) (he:QbV t.1 j nm.data.toList=0):
 ∀W B g h us,Below w.heap.size w W->W.ownsRow B 51 1 (.slice (some ⟨g,0,none⟩) [t].length h) [t].length us->QaE W us ([t].map (·.1))->Calls Tryz.prog 59 #[.agg j.cells,.slice (some ⟨g,0,none⟩) [t].length h] W fun e w'=>∃v us,e=.returned (.tuple #[v,.nilIface])/\w'.ownsRow W.heap.size 51 1 v 1 us/\Qbj w' W.heap.size us t.1/\Below W.heap.size W w':=by
 obtain⟨ae,am,ao,al⟩:=Qam hr;have ad:Qa1 j.code=(((1:Nat):Int),((1:Nat):Int)):=by rw[y];rfl
 intro W B g h us hW ho hh;obtain⟨b,o,c,N,H,F,O⟩:=Qcq ho hh ae;refine cols_ok _ oa h oc j 1 1 t.1 W U ad (by decide) (by decide) (fun W' hW'=>?_) (fun W' hW'=>QbC g 0 1 h b o t.1.length c t.1 j W' (Or.inr (Or.inr (Or.inl y))) (by decide) (Nat.lt_of_lt_of_le H hW'.size) (cK hW' H N) rfl (by omega) (Nat.lt_of_lt_of_le F hW'.size) (O.below hW' F));have I:D<W.heap.size:=Nat.lt_of_lt_of_le M hW.size;have:=QfM g 0 1 h b o t.1.length c D J Z t.1 nm j W' y (by decide) (Nat.lt_of_lt_of_le H hW'.size) (cK hW' H N) K (Nat.lt_of_lt_of_le I hW'.size) ((hW'.cell (p:=⟨D,J,none⟩) I).trans (cK hW M ag)) ab rfl (by omega) (Nat.lt_of_lt_of_le F hW'.size) (O.below hW' F) hx V;rw[he] at this;exact this
theorem Qjx {tb h tcap:Nat} {t:Tb} {j:Jb} {w:World} (nm:ByteArray) (D H V at_:Nat) (I:j.code=2) (J:j.cols=.slice (some ⟨D,H,none⟩) 1 V) (ac:w.cell? ⟨D,H,none⟩=some (.string nm)) (K:D<w.heap.size) (Z:Qaq t.1 nm.data.toList=some at_) (ht:QaX w tb h [t]) (F:tb<w.heap.size) (O:Qae t.1 t.2=true) (he:QbV t.1 j nm.data.toList=0):
 ∀W,Below w.heap.size w W->Calls Tryz.prog 102 #[.agg j.cells,.slice (some ⟨tb,h,none⟩) [t].length tcap] W fun e w'=>(((∀r∈t.2,Qaz (QiU t.1 j r))/\∃v1 us1,e=.returned (.tuple #[v1,.slice none 0 0,.nilIface])/\w'.ownsRow W.heap.size 84 1 v1 t.2.length us1/\Qab w' W.heap.size us1 (t.2.map (Qmc t.1 j at_)))\/((∃r∈t.2,¬Qaz (QiU t.1 j r))/\e=.returned (.tuple #[.slice none 0 0,.slice none 0 0,QbK 2])))/\Below W.heap.size W w':=by
 obtain⟨ab,ah,aj,U⟩:=Qam O;obtain⟨i,hi,ai,N,M⟩:=Qe4 he;intro W y;obtain⟨vc,vr,c0,c1,hc,aa⟩:=ht 0 (by simp);exact QkG tb h 1 tcap vc vr t.1 t.2 j W nm D H V at_ I J (cK y K ac) (Nat.lt_of_lt_of_le K y.size) Z (fun r hr'=>⟨Qmh O N r hr',Qmh O M r hr'⟩) (by decide) (Nat.lt_of_lt_of_le F y.size) ((y.cell (p:=⟨tb,h,none⟩) F).trans (by simpa using c0)) ((y.cell (p:=⟨tb,h+1,none⟩) F).trans (by simpa using c1)) (hc.below y) (aa.below y) ab (by omega) U (by omega) (arg_ok N) (arg_ok M)
theorem QkH (tb H tcap:Nat) (t:Tb) (j:Jb) (oa:Option Addr) (oc:Nat) (nm:ByteArray) (y I V:Nat) (w:World) (h:j.code=2) (O:j.outs=.slice oa 1 oc) (D:j.cols=.slice (some ⟨y,I,none⟩) 1 V) (U:w.cell? ⟨y,I,none⟩=some (.string nm)) (J:y<w.heap.size) (ae:inS Qbr j.op.data.toList=true) (hx:j.left.2.2.2.size<=maxLen) (F:j.right.2.2.2.size<=maxLen) (Z:QaX w tb H [t]) (M:tb<w.heap.size) (ac:Qd6 t j nm.data.toList≠0):
 Calls Tryz.prog 61 #[.agg j.cells,.slice (some ⟨tb,H,none⟩) 1 tcap] w fun e w'=>e=.returned (.tuple #[.slice none 0 0,QbK (Qd6 t j nm.data.toList)])/\Below w.heap.size w w':=by
 have al:Qa1 j.code=(((1:Nat):Int),((1:Nat):Int)):=by rw[h];rfl
 cases hr:Qae t.1 t.2
 ·have:Qd6 t j nm.data.toList=1:=by unfold Qd6;rw[if_pos hr]
  rw[this];exact QhC tb H tcap [t] j w Z M (by simp) ⟨t,by simp,hr⟩
 ·obtain⟨am,aA,aC,ax⟩:=Qam hr;have K:∀x∈[t],Qae x.1 x.2=true:=by intro x F;simp at F;rw[F];exact hr
  by_cases he:QbV t.1 j nm.data.toList=0
  ·have hn:Qd6 t j nm.data.toList=if(∀r∈t.2,Qaz (QiU t.1 j r)) then 0 else 2:=by unfold Qd6;rw[if_neg (by simp[hr]),if_neg (by simp[he])]
   by_cases hall:∀r∈t.2,Qaz (QiU t.1 j r)
   ·rw[hn,if_pos hall] at ac;exact absurd rfl ac
   ·rw[hn,if_neg hall];obtain⟨i,hi,aB,az,ay⟩:=Qe4 he;refine QiR tb H tcap [t] j w Z M (by simp) (by simp) K t.1 1 2 (by decide) (Qjw oa oc nm y I V h O D U J ae hx F hr he) (fun W hW=>?_);refine(Qjx (tcap:=tcap) nm y I V i h D U J hi Z M hr he W hW).mono ?_;rintro e w' ⟨⟨h1,-⟩|⟨-,h2⟩,hb⟩
    ·exact absurd h1 hall
    ·exact⟨h2,hb⟩
  ·have hn:Qd6 t j nm.data.toList=QbV t.1 j nm.data.toList:=by unfold Qd6;rw[if_neg (by simp[hr]),if_pos he]
   rw[hn];refine QhD tb H tcap [t] j w Z M (by simp) (by simp) K _ he ?_;intro W B g af us hW ho hh;obtain⟨b,o,c,aj,ag,ad,ak⟩:=Qcq ho hh am;have N:y<W.heap.size:=Nat.lt_of_lt_of_le J hW.size;exact Qdm _ oa af oc j 1 1 _ W O al (by decide) he (fun W' hW'=>QfM g 0 1 af b o t.1.length c y I V t.1 nm j W' h (by decide) (Nat.lt_of_lt_of_le ag hW'.size) (cK hW' ag aj) D (Nat.lt_of_lt_of_le N hW'.size) ((hW'.cell (p:=⟨y,I,none⟩) N).trans (cK hW J U)) ae rfl (by omega) (Nat.lt_of_lt_of_le ad hW'.size) (ak.below hW' ad) hx F)
theorem Qmi {t:Tb} {j:Jb} {nm:List UInt8} (h:Qd6 t j nm=0):Qae t.1 t.2=true/\QbV t.1 j nm=0/\∀r∈t.2,Qaz (QiU t.1 j r):=by
 unfold Qd6 at h;split at h
 ·cases h
 ·rename_i D
  split at h
  ·rename_i y;exact absurd h y
  ·rename_i y
   split at h
   ·rename_i F;exact⟨by simpa using D,by simpa using y,F⟩
   ·cases h
theorem Qmj (tb H tcap:Nat) (t:Tb) (j:Jb) (oa:Option Addr) (oc:Nat) (nm:ByteArray) (F J O at_:Nat) (w:World) (y:j.code=2) (Z:j.outs=.slice oa 1 oc) (D:j.cols=.slice (some ⟨F,J,none⟩) 1 O) (M:w.cell? ⟨F,J,none⟩=some (.string nm)) (K:F<w.heap.size) (ae:inS Qbr j.op.data.toList=true) (hx:j.left.2.2.2.size<=maxLen) (h:j.right.2.2.2.size<=maxLen) (U:QaX w tb H [t]) (N:tb<w.heap.size) (ad:Qaq t.1 nm.data.toList=some at_) (aa:Qd6 t j nm.data.toList=0):
 Calls Tryz.prog 61 #[.agg j.cells,.slice (some ⟨tb,H,none⟩) 1 tcap] w fun e w'=>∃g c,e=.returned (.tuple #[.slice (some ⟨g,0,none⟩) 1 c,.nilIface])/\w.heap.size<=g/\g<w'.heap.size/\QbP w' w.heap.size g [(t.1,t.2.map (Qmc t.1 j at_))]/\Below w.heap.size w w':=by
 obtain⟨I,he,V⟩:=Qmi aa;obtain⟨aw,au,af,ar⟩:=Qam I;obtain⟨vc,vr,c0,c1,hc,av⟩:=U 0 (by simp);refine QdU tb H tcap [t] j w U N (by simp) (by simp) (by intro x h;simp at h;rw[h];exact I) t.1 (t.2.map (Qmc t.1 j at_)) [] (by simpa using af) (Qbo hc) (Qjw oa oc nm F J O y Z D M K ae hx h I he) (fun W hW=>?_);refine(Qjx (tcap:=tcap) nm F J O at_ y D M K ad U N I he W hW).mono ?_;rintro e w' ⟨⟨-,v1,ah,h1,h2,h3⟩|⟨⟨r,ab,hn⟩,-⟩,hb⟩
 ·exact⟨v1,.slice none 0 0,ah,[],h1,by simpa using h2,h3,World.ownsRow_nil _ _ _ _,Qab.nil _ _,hb⟩
 ·exact absurd (V r ab) hn
end Go.Proofs.YtjlgejennghhlaaGreatDoor
namespace Go.Proofs.YtjlgejennghhlaaGreatDoor.Fw
open Go.RowKit
def QrR (B:Nat):FJob->Value->World->Prop:=fun j v w'=>∃vo vi vc,v=.agg (jobV j vo vi vc).toArray/\QbH B j.outs vo w'/\QbH B j.ins vi w'/\QbH B j.cols vc w'
theorem RD.sets {R k:Nat} {ts:List Tk} (y:R<k):∀(D:List Value) (o:Nat) (w:World),RD w R ts->RD (w.setCells k o D) R ts
 |[],_,_,h=>h
 |v::r,o,w,h=>RD.sets y r (o+1) _ (h.set (i:=o) (v:=v) y)
theorem But.puts {R k:Nat} {w:World} (y:w.heap.size<=k):∀(D:List Value) (o:Nat) (w':World),But R w w'->But R w (w'.setCells k o D)
 |[],_,_,h=>h
 |v::r,o,w',h=>But.puts y r (o+1) _ (h.put (i:=o) y v)
theorem QcV {base k:Nat} {e:TypeId} {z n:Nat} {v:Value} {xs:List Value} (y:k<base):∀(D:List Value) (o:Nat) (w:World),w.ownsRow base e z v n xs->(w.setCells k o D).ownsRow base e z v n xs
 |[],_,_,h=>h
 |u::r,o,w,h=>QcV y r (o+1) _ (ownsRow_setCell_below h (a:=⟨k,o,none⟩) y u)
def Qq8:List Value->Nat->List Value->List Value
 |vs,_,[]=>vs
 |vs,o,u::r=>Qq8 (vs.set o u) (o+1) r
theorem Box.sets {k:Nat}:∀(us:List Value) (o:Nat) (w:World) (y:List Value),Box w k y->Box (w.setCells k o us) k (Qq8 y o us)
 |[],_,_,_,h=>h
 |u::r,o,w,y,h=>Box.sets r (o+1) _ _ (h.set o u)
theorem QjD:∀(us y pre:List Value),y.length=us.length->Qq8 (pre++y) pre.length us=pre++us
 |[],y,pre,h=>by
  have:y=[]:=List.eq_nil_of_length_eq_zero (by simpa using h);subst this;rfl
 |u::r,[],pre,h=>by simp at h
 |u::r,v::y,pre,h=>by
  have D:=QjD r y (pre++[u]) (by simpa using h);unfold Qq8;rw[List.set_append_right _ _ (Nat.le_refl _)];simp only[Nat.sub_self,List.set_cons_zero];rw[List.length_append] at D;simpa using D
theorem Box.full {k:Nat} {w:World} {y us:List Value} (h:Box w k y) (H:y.length=us.length):Box (w.setCells k 0 us) k us:=by
 have D:=Box.sets us 0 w y h;have F:=QjD us y [] H;simp only[List.nil_append,List.length_nil] at F;rw[F] at D;exact D
theorem Box.range {w:World} {k:Nat} {y:List Value} (h:Box w k y):w.rangeAt k 0 y:=fun j v hv=>by rw[Nat.zero_add];exact h.cell j hv
theorem Box.there {w:World} {k:Nat} {y:List Value} (h:Box w k y):w.there k 0 y.length:=fun j hj=>by
 rw[Nat.zero_add];exact⟨by rw[h.cell j (List.getElem?_eq_getElem hj)];rfl,h.fz j⟩
theorem Qea {fn:Func} {p:Tmp} {D:TypeId} (h:fn.results=#[.cell p D]) (y:Array Value) (P:Program) (w:World) {a:Addr} {v:Value} (F:y.getD p undef=.pointer (some a)) (H:(loadVar D a).run P w=.ok v w):
 (results fn y).run P w=.ok v w:=by
 have e:(results fn y).run P w=((asAddr (y.getD p undef)).run P w).andThen fun a w₁=>(loadVar D a).run P w₁:=by
  simp only[results,h];simp[Sem.run_bind,Result.andThen]
 rw[e,F];simp[asAddr,Result.andThen,H]
theorem Qh1 {at_:Nat} {outs:List By} {retry:Int} {ts ts':List Tk} {j:FJob} (h:Qb8 at_ outs retry ts=.ok (j,ts')):j.outs=outs:=by
 unfold Qb8 at h;simp only[Except.bind] at h
 repeat' split at h
 all_goals first
  |(simp only[Except.ok.injEq,Prod.mk.injEq] at h;rw[<-h.1];done)
  |(cases h;done)
theorem But.of2 {R K:Nat} {w D F:World} (h:But R w D) (y:But2 R K D F) (H:w.heap.size<=K):But R w F:=
 ⟨y.os.trans h.os,y.tape.trans h.tape,y.output.trans h.output,Nat.le_trans h.size y.size,fun i hi hne=>(y.block i (Nat.lt_of_lt_of_le hi h.size) (by intro e;exact hne (by rw[e])) (by omega)).trans (h.block i hi hne)⟩
theorem Box.but2 {R K k:Nat} {w w':World} {y:List Value} (h:Box w k y) (H:But2 R K w w') (D:k≠R) (F:k≠K):Box w' k y:=h.block (H.block k h.lt D F)
theorem QjE {w w':World} {R K base:Nat} {e:TypeId} {size:Nat} {v:Value} {n:Nat} {xs:List Value} (h:w.ownsRow base e size v n xs) (M:But2 R K w w') (O:R<base) (U:K<base):w'.ownsRow base e size v n xs:=by
 obtain⟨F,h|⟨g,H,D,J,N,y,r⟩⟩:=h
 ·exact⟨F,Or.inl h⟩
 ·have I:g<w.heap.size:=by
   rcases Nat.lt_or_ge g w.heap.size with q|q
   ·exact q
   ·rw[Array.getElem?_eq_none q] at y;simp at y
  exact⟨F,Or.inr ⟨g,H,D,J,N,(M.block g I (by omega) (by omega)).trans y,r⟩⟩
theorem QjF (R:Nat) (ts:List Tk) (w:World) (h:RD w R ts):Calls Tryz.prog 81 #[.pointer (some ⟨R,0,none⟩)] w fun e w'=>Rs (Qmm ts) (QrR w.heap.size) e w.heap.size w' R/\But R w w':=by
 have hR:=h.lt;have H0:=Hk h;have B0:=Hk (But.refl R w);have E0:=Hk (Qmm.eq_1 ts);clear h;go_enter Tryz.func81,Tryz.ntmps81;have H1:=Hk (H0.out.below (Qaa _ (.cells #[.int .i64 0,.int .i64 0,.slice none 0 0,.slice none 0 0,.slice none 0 0,.string ⟨#[]⟩,.string ⟨#[]⟩,.int .i64 0,.int .i64 0,.string ⟨#[]⟩,.string ⟨#[]⟩,.int .i64 0,.int .i64 0,.string ⟨#[]⟩,.int .i64 0] 50)));have B2:=Hk (B0.out.box (.cells #[.int .i64 0,.int .i64 0,.slice none 0 0,.slice none 0 0,.slice none 0 0,.string ⟨#[]⟩,.string ⟨#[]⟩,.int .i64 0,.int .i64 0,.string ⟨#[]⟩,.string ⟨#[]⟩,.int .i64 0,.int .i64 0,.string ⟨#[]⟩,.int .i64 0] 50));have X3:=Hk (Box.new w [.int .i64 0,.int .i64 0,.slice none 0 0,.slice none 0 0,.slice none 0 0,.string ⟨#[]⟩,.string ⟨#[]⟩,.int .i64 0,.int .i64 0,.string ⟨#[]⟩,.string ⟨#[]⟩,.int .i64 0,.int .i64 0,.string ⟨#[]⟩,.int .i64 0] 50 _ rfl);clear H0 B0;go_wp2_with (go_at_call 111;fail);refine(QaK Qhi R ts _ H1.out (by decide)).mono ?_;rintro e I ⟨⟨a1,ct,v,y,rfl,O,D⟩|⟨er,y,H⟩,aM⟩
 rotate_left
 ·obtain⟨V,rfl,U,t1,tB,tl⟩:=H;have HP:=Hk (Qaf E0.out y);clear y;go_wp2;exact⟨rfl,Or.inr ⟨_,HP.out,V,rfl,U,t1,Nat.le_trans B2.out.size tB,tl⟩,B2.out.then aM⟩
 subst O;have he:=bind_ok E0.out y
 dsimp only at he
 have E4:=Hk he;clear he y;have H5:=Hk D;have B6:=Hk (B2.out.then aM);have X7:=Hk (X3.out.but aM (by omega));have q8:=X7.out.lt;have ck:=aM.size
 try simp only[World.size_alloc,Qac] at ck
 clear H1 B2 X3 E0 D aM;have bM:=Hk (H5.out.below (Qaa _ (.cells #[.int .i64 (a1:Nat),.int .i64 0,.slice none 0 0,.slice none 0 0,.slice none 0 0,.string ⟨#[]⟩,.string ⟨#[]⟩,.int .i64 0,.int .i64 0,.string ⟨#[]⟩,.string ⟨#[]⟩,.int .i64 0,.int .i64 0,.string ⟨#[]⟩,.int .i64 0] 50)));have a3:=Hk (B6.out.box (.cells #[.int .i64 (a1:Nat),.int .i64 0,.slice none 0 0,.slice none 0 0,.slice none 0 0,.string ⟨#[]⟩,.string ⟨#[]⟩,.int .i64 0,.int .i64 0,.string ⟨#[]⟩,.string ⟨#[]⟩,.int .i64 0,.int .i64 0,.string ⟨#[]⟩,.int .i64 0] 50));have bJ:=Hk (X7.out.below (Qaa _ (.cells #[.int .i64 (a1:Nat),.int .i64 0,.slice none 0 0,.slice none 0 0,.slice none 0 0,.string ⟨#[]⟩,.string ⟨#[]⟩,.int .i64 0,.int .i64 0,.string ⟨#[]⟩,.string ⟨#[]⟩,.int .i64 0,.int .i64 0,.string ⟨#[]⟩,.int .i64 0] 50)));have bI:=Hk (Box.new I [.int .i64 (a1:Nat),.int .i64 0,.slice none 0 0,.slice none 0 0,.slice none 0 0,.string ⟨#[]⟩,.string ⟨#[]⟩,.int .i64 0,.int .i64 0,.string ⟨#[]⟩,.string ⟨#[]⟩,.int .i64 0,.int .i64 0,.string ⟨#[]⟩,.int .i64 0] 50 _ rfl);clear H5 B6 X7;go_wp2_with (go_at_call 115;fail);refine(Qes R ct _ bM.out).mono ?_;rintro e w2 ⟨⟨J,aB,v,y,rfl,O,D⟩|⟨er,y,H⟩,aA⟩
 rotate_left
 ·obtain⟨V,rfl,U,t1,tB,tl⟩:=H;have HP:=Hk (Qaf E4.out y);clear y;go_wp2;exact⟨rfl,Or.inr ⟨_,HP.out,V,rfl,U,t1,Nat.le_trans a3.out.size tB,tl⟩,a3.out.then aA⟩
 unfold QbH at O;obtain⟨N,M,b7⟩:=own_slice O;subst b7;simp only[World.size_alloc] at O;have OO:=Hk O;clear O;have he:=bind_ok E4.out y
 dsimp only at he
 have aU:=Hk he;clear he y;have bG:=Hk D;have bN:=Hk (a3.out.then aA);have bk:=Hk (bJ.out.but aA (by omega));have cO:=bk.out.lt;have az:=Hk (bI.out.but aA (by omega));have cJ:=az.out.lt;have bS:=aA.size
 try simp only[World.size_alloc,Qac] at bS
 clear bM a3 bJ bI E4 D aA;have cw:=az.out.cell 2 rfl;have cD:=az.out.fz 2;have cA:=az.out.lt;have bs:=Hk (bG.out.set (k:=I.heap.size) (i:=2) (v:=.slice N J.length M) (by omega));have aZ:=Hk (bN.out.put (k:=I.heap.size) (i:=2) (by omega) (.slice N J.length M));have aV:=Hk (bk.out.other (k':=I.heap.size) 2 (.slice N J.length M) (by omega));have aT:Hid (Box (w2.setCell ⟨I.heap.size,2,none⟩ (.slice N J.length M)) I.heap.size [.int .i64 (a1:Nat),.int .i64 0,.slice N J.length M,.slice none 0 0,.slice none 0 0,.string ⟨#[]⟩,.string ⟨#[]⟩,.int .i64 0,.int .i64 0,.string ⟨#[]⟩,.string ⟨#[]⟩,.int .i64 0,.int .i64 0,.string ⟨#[]⟩,.int .i64 0]):=Hk (az.out.set 2 (.slice N J.length M));have bP:=Hk (ownsRow_setCell_below OO.out (a:=⟨I.heap.size,2,none⟩) (by show I.heap.size<_;omega) (.slice N J.length M));clear bG bN bk az OO;have a0:=Hk (Qcs QhY R aB _ bs.out (by decide))
 by_cases hm:Qar aB=QhY
 ·as_aux_lemma=>
  rw[if_pos hm,show(Qar aB==QhY)=true by simp[hm]] at a0;have he:=aU.out;rw[QfP,if_pos hm] at he;have ER:=Hk he;clear hm he aU;go_wp2_with (go_at_call 114;fail);refine a0.out.mono ?_;rintro e w3 ⟨rfl,D,hb⟩;have HM:=Hk D;have BM:=Hk (aZ.out.then hb);have RM:=Hk (aV.out.but hb (by omega));have JM:=Hk (aT.out.but hb (by omega));have OM:=Hk (Qal bP.out hb (by omega));have cq:=RM.out.lt;have bZ:=JM.out.lt;clear D hb bs aZ aV aT;go_wp2_with (go_at_call 116;fail);refine(QgX 5 R aB.tail _ HM.out).mono ?_;rintro e w4 ⟨⟨a4,bv,v,y,rfl,O,D⟩|⟨er,y,H⟩,K⟩
  rotate_left
  ·obtain⟨V,rfl,U,t1,tB,tl⟩:=H;have HP:=Hk (Qaf ER.out y);clear y;go_wp2;exact⟨rfl,Or.inr ⟨_,HP.out,V,rfl,U,t1,Nat.le_trans BM.out.size tB,tl⟩,BM.out.then K⟩
  unfold encI at O;subst O;have he:=bind_ok ER.out y
  dsimp only at he
  have ax:=Hk he;clear he y;have aJ:=Hk D;have aw:=Hk (BM.out.then K);have ao:=Hk (RM.out.but K (by omega));have cm:=ao.out.lt;have ae:=Hk (JM.out.but K (by omega));have cg:=ae.out.lt;have aL:=Hk (Qal OM.out K (by omega));have aQ:=K.size
  try simp only[World.size_alloc,Qac] at aQ
  clear HM BM RM JM OM ER D K;have cF:=ae.out.cell 14 rfl;have cB:=ae.out.fz 14;have cx:=ae.out.lt;have bQ:=Hk (aJ.out.set (k:=I.heap.size) (i:=14) (v:=.int .i64 a4) (by omega));have aX:=Hk (aw.out.put (k:=I.heap.size) (i:=14) (by omega) (.int .i64 a4));have aE:=Hk (ao.out.other (k':=I.heap.size) 14 (.int .i64 a4) (by omega));have bO:Hid (Box (w4.setCell ⟨I.heap.size,14,none⟩ (.int .i64 a4)) I.heap.size [.int .i64 (a1:Nat),.int .i64 0,.slice N J.length M,.slice none 0 0,.slice none 0 0,.string ⟨#[]⟩,.string ⟨#[]⟩,.int .i64 0,.int .i64 0,.string ⟨#[]⟩,.string ⟨#[]⟩,.int .i64 0,.int .i64 0,.string ⟨#[]⟩,.int .i64 a4]):=Hk (ae.out.set 14 (.int .i64 a4));have a6:=Hk (ownsRow_setCell_below aL.out (a:=⟨I.heap.size,14,none⟩) (by show I.heap.size<_;omega) (.int .i64 a4));clear aJ aw ao ae aL;go_wp2_with (go_at_call 111;fail);refine(QaK [61] R bv _ bQ.out (by decide)).mono ?_;rintro e w5 ⟨⟨a5,b4,v,y,rfl,O,D⟩|⟨er,y,H⟩,ay⟩
  rotate_left
  ·obtain⟨V,rfl,U,t1,tB,tl⟩:=H;have HP:=Hk (Qaf ax.out y);clear y;go_wp2;exact⟨rfl,Or.inr ⟨_,HP.out,V,rfl,U,t1,Nat.le_trans aX.out.size tB,tl⟩,aX.out.then ay⟩
  subst O;have he:=bind_ok ax.out y
  dsimp only at he
  have bm:=Hk he;clear he y;have bK:=Hk D;have aY:=Hk (aX.out.then ay);have bd:=Hk (aE.out.but ay (by omega));have cR:=bd.out.lt;have aW:=Hk (bO.out.but ay (by omega));have cM:=aW.out.lt;have bL:=Hk (Qal a6.out ay (by omega));have bX:=ay.size
  try simp only[World.size_alloc,Qac] at bX
  clear bQ aX aE bO a6 ax D ay;go_wp2_with (go_at_call 117;fail);refine(Qh0 a1 J a4 (.slice N J.length M) I.heap.size R b4 _ bK.out aW.out (by omega)).mono ?_;rintro e w9 ⟨⟨j,bx,vi,vc,y,rfl,D,aF,af,ag⟩|⟨er,y,H⟩,Z⟩
  rotate_left
  ·obtain⟨V,rfl,U,t1,tB,tl⟩:=H;have HP:=Hk (Qaf bm.out y);clear y;go_wp2;exact⟨rfl,Or.inr ⟨_,HP.out,V,rfl,U,t1,Nat.le_trans aY.out.size tB,tl⟩,aY.out.of2 Z (by omega)⟩
  have bu:=Hk (Qh1 y);have he:=bind_ok bm.out y
  dsimp only at he
  have E9:=Hk he;clear he y;have H9:=Hk D;have B9:=Hk (aY.out.of2 Z (by omega));have R9:=Hk (bd.out.but2 Z (by omega) (by omega));have J9:=Hk aF;have O9:=Hk (QjE bL.out Z (by omega) (by omega));unfold QbH at af ag;have s9:=aW.out.lt;have OI:=Hk (own_mono (B:=I.heap.size+1) (by omega) af);have OC:=Hk (own_mono (B:=I.heap.size+1) (by omega) ag);have b2:=R9.out.lt;obtain⟨ia,ic,bi⟩:=own_slice af;obtain⟨ca,cc,bp⟩:=own_slice ag;subst bi bp;clear D aF af ag Z bK aY bm aW bd bL;go_wp2_with (go_at_call 111;fail);refine(QaK [59] R bx _ H9.out (by decide)).mono ?_;rintro e aK ⟨⟨a7,bW,v,y,rfl,O,D⟩|⟨er,y,H⟩,F⟩
  rotate_left
  ·obtain⟨V,rfl,U,t1,tB,tl⟩:=H;have HP:=Hk (Qaf E9.out y);clear y;go_wp2;exact⟨rfl,Or.inr ⟨_,HP.out,V,rfl,U,t1,Nat.le_trans B9.out.size tB,tl⟩,B9.out.then F⟩
  subst O;have he:=bind_ok E9.out y
  dsimp only at he
  have cp:=Hk he;clear he y;have b6:=Hk D;have b9:=Hk (B9.out.then F);have bn:=Hk (R9.out.but F (by omega));have cL:=bn.out.lt;have bH:=Hk (J9.out.but F (by omega));have cQ:=bH.out.lt;have cn:=Hk (Qal O9.out F (by omega));have cb:=Hk (Qal OI.out F (by omega));have cj:=Hk (Qal OC.out F (by omega));have bY:=F.size
  try simp only[World.size_alloc,Qac] at bY
  clear H9 B9 R9 J9 O9 OI OC E9 D F;have a9:Hid (Box aK I.heap.size (jobV j (.slice N J.length M) (.slice ia j.ins.length ic) (.slice ca j.cols.length cc))):=bH;have bB:=Hk bn.out.there;have bE:=Hk (bn.out.full (us:=(jobV j (.slice N J.length M) (.slice ia j.ins.length ic) (.slice ca j.cols.length cc))) rfl);have bj:=Hk (RD.sets (k:=w.heap.size) (by omega) (jobV j (.slice N J.length M) (.slice ia j.ins.length ic) (.slice ca j.cols.length cc)) 0 _ b6.out);have bh:=Hk (But.puts (k:=w.heap.size) (Nat.le_refl _) (jobV j (.slice N J.length M) (.slice ia j.ins.length ic) (.slice ca j.cols.length cc)) 0 _ b9.out);have au:(Tryz.prog.info? 50).map (·.size)=some 15:=by kernel_rfl
  have av:=Hk au;clear au;have ap:(jobV j (.slice N J.length M) (.slice ia j.ins.length ic) (.slice ca j.cols.length cc)).toArray.all (·.oneCell')=true:=by simp[jobV,Value.oneCell']
  have bb:=Hk ap;clear ap;generalize am:(jobV j (.slice N J.length M) (.slice ia j.ins.length ic) (.slice ca j.cols.length cc))=JL at*;have bt:=Hk am;have aG:JL.length=15:=by rw[<-am];rfl
  have ar:=Hk aG;clear am aG;have aq:JL.toArray.size=15:=ar.out;have bz:Hid (aK.there w.heap.size 0 JL.toArray.size):=by
   show World.there _ _ _ _
   rw[aq];exact bB.out
  have bo:Hid ((Tryz.prog.info? 50).map (·.size)=some JL.toArray.size):=by
   show _=_
   rw[aq];exact av.out
  clear aq;go_wp2_with (first|(refine wpList_load_mid rfl 50 (.tmp 3) rfl I.heap.size 0 rfl JL _ a9.out.range Tryz.underlying50 rfl (by rw[ar.out];exact av.out) ?_)|(refine wpList_store_mid rfl 50 (.tmp 2) (.tmp 21) rfl w.heap.size 0 JL.toArray rfl rfl bz.out bo.out bb.out ?_));refine bodyPost_ret (v:=.agg JL.toArray) ?_ rfl ?_
  ·exact Qea rfl _ _ _ rfl (run_loadVar_mid _ w.heap.size 0 50 JL _ bE.out.range Tryz.underlying50 rfl (by rw[ar.out];exact av.out))
  have bD:=bt.out;subst bD;exact⟨Or.inl ⟨_,_,_,cp.out,rfl,⟨_,_,_,rfl,(show QbH w.heap.size j.outs _ _ from by unfold QbH;rw[bu.out];exact own_mono (by omega) (QcV (k:=w.heap.size) (by omega) _ _ _ cn.out)),(show QbH w.heap.size j.ins _ _ from own_mono (by omega) (QcV (k:=w.heap.size) (by omega) _ _ _ cb.out)),(show QbH w.heap.size j.cols _ _ from own_mono (by omega) (QcV (k:=w.heap.size) (by omega) _ _ _ cj.out))⟩,bj.out⟩,bh.out⟩
 ·as_aux_lemma=>
  rw[if_neg hm,show(Qar aB==QhY)=false by simp[hm]] at a0;have he:=aU.out;rw[QfP,if_neg hm] at he;have bA:=bind_ok he rfl
  dsimp only at bA
  have ER:=Hk bA;clear hm he bA aU;go_wp2_with (go_at_call 114;fail);refine a0.out.mono ?_;rintro e w3 ⟨rfl,D,hb⟩;have HM:=Hk D;have BM:=Hk (aZ.out.then hb);have RM:=Hk (aV.out.but hb (by omega));have JM:=Hk (aT.out.but hb (by omega));have OM:=Hk (Qal bP.out hb (by omega));have cq:=RM.out.lt;have bZ:=JM.out.lt;clear D hb bs aZ aV aT;go_wp2_with (go_at_call 111;fail);refine(QaK [61] R aB _ HM.out (by decide)).mono ?_;rintro e w4 ⟨⟨a5,bv,v,y,rfl,O,D⟩|⟨er,y,H⟩,K⟩
  rotate_left
  ·obtain⟨V,rfl,U,t1,tB,tl⟩:=H;have HP:=Hk (Qaf ER.out y);clear y;go_wp2;exact⟨rfl,Or.inr ⟨_,HP.out,V,rfl,U,t1,Nat.le_trans BM.out.size tB,tl⟩,BM.out.then K⟩
  subst O;have he:=bind_ok ER.out y
  dsimp only at he
  have ax:=Hk he;clear he y;have aJ:=Hk D;have aw:=Hk (BM.out.then K);have ao:=Hk (RM.out.but K (by omega));have cm:=ao.out.lt;have ae:=Hk (JM.out.but K (by omega));have cg:=ae.out.lt;have aL:=Hk (Qal OM.out K (by omega));have aQ:=K.size
  try simp only[World.size_alloc,Qac] at aQ
  clear HM BM RM JM OM ER D K;go_wp2_with (go_at_call 117;fail);refine(Qh0 a1 J 0 (.slice N J.length M) I.heap.size R bv _ aJ.out ae.out (by omega)).mono ?_;rintro e w9 ⟨⟨j,bx,vi,vc,y,rfl,D,aF,af,ag⟩|⟨er,y,H⟩,Z⟩
  rotate_left
  ·obtain⟨V,rfl,U,t1,tB,tl⟩:=H;have HP:=Hk (Qaf ax.out y);clear y;go_wp2;exact⟨rfl,Or.inr ⟨_,HP.out,V,rfl,U,t1,Nat.le_trans aw.out.size tB,tl⟩,aw.out.of2 Z (by omega)⟩
  have bu:=Hk (Qh1 y);have he:=bind_ok ax.out y
  dsimp only at he
  have E9:=Hk he;clear he y;have H9:=Hk D;have B9:=Hk (aw.out.of2 Z (by omega));have R9:=Hk (ao.out.but2 Z (by omega) (by omega));have J9:=Hk aF;have O9:=Hk (QjE aL.out Z (by omega) (by omega));unfold QbH at af ag;have s9:=ae.out.lt;have OI:=Hk (own_mono (B:=I.heap.size+1) (by omega) af);have OC:=Hk (own_mono (B:=I.heap.size+1) (by omega) ag);have b2:=R9.out.lt;obtain⟨ia,ic,bi⟩:=own_slice af;obtain⟨ca,cc,bp⟩:=own_slice ag;subst bi bp;clear D aF af ag Z aJ aw ax ae ao aL;go_wp2_with (go_at_call 111;fail);refine(QaK [59] R bx _ H9.out (by decide)).mono ?_;rintro e aK ⟨⟨a7,bW,v,y,rfl,O,D⟩|⟨er,y,H⟩,F⟩
  rotate_left
  ·obtain⟨V,rfl,U,t1,tB,tl⟩:=H;have HP:=Hk (Qaf E9.out y);clear y;go_wp2;exact⟨rfl,Or.inr ⟨_,HP.out,V,rfl,U,t1,Nat.le_trans B9.out.size tB,tl⟩,B9.out.then F⟩
  subst O;have he:=bind_ok E9.out y
  dsimp only at he
  have cf:=Hk he;clear he y;have ci:=Hk D;have b5:=Hk (B9.out.then F);have bq:=Hk (R9.out.but F (by omega));have cN:=bq.out.lt;have aE:=Hk (J9.out.but F (by omega));have cP:=aE.out.lt;have a6:=Hk (Qal O9.out F (by omega));have ce:=Hk (Qal OI.out F (by omega));have cd:=Hk (Qal OC.out F (by omega));have bT:=F.size
  try simp only[World.size_alloc,Qac] at bT
  clear H9 B9 R9 J9 O9 OI OC E9 D F;have a9:Hid (Box aK I.heap.size (jobV j (.slice N J.length M) (.slice ia j.ins.length ic) (.slice ca j.cols.length cc))):=aE;have bB:=Hk bq.out.there;have bE:=Hk (bq.out.full (us:=(jobV j (.slice N J.length M) (.slice ia j.ins.length ic) (.slice ca j.cols.length cc))) rfl);have bj:=Hk (RD.sets (k:=w.heap.size) (by omega) (jobV j (.slice N J.length M) (.slice ia j.ins.length ic) (.slice ca j.cols.length cc)) 0 _ ci.out);have bh:=Hk (But.puts (k:=w.heap.size) (Nat.le_refl _) (jobV j (.slice N J.length M) (.slice ia j.ins.length ic) (.slice ca j.cols.length cc)) 0 _ b5.out);have au:(Tryz.prog.info? 50).map (·.size)=some 15:=by kernel_rfl
  have av:=Hk au;clear au;have ap:(jobV j (.slice N J.length M) (.slice ia j.ins.length ic) (.slice ca j.cols.length cc)).toArray.all (·.oneCell')=true:=by simp[jobV,Value.oneCell']
  have bb:=Hk ap;clear ap;generalize am:(jobV j (.slice N J.length M) (.slice ia j.ins.length ic) (.slice ca j.cols.length cc))=JL at*;have bt:=Hk am;have aG:JL.length=15:=by rw[<-am];rfl
  have ar:=Hk aG;clear am aG;have aq:JL.toArray.size=15:=ar.out;have bz:Hid (aK.there w.heap.size 0 JL.toArray.size):=by
   show World.there _ _ _ _
   rw[aq];exact bB.out
  have bo:Hid ((Tryz.prog.info? 50).map (·.size)=some JL.toArray.size):=by
   show _=_
   rw[aq];exact av.out
  clear aq;go_wp2_with (first|(refine wpList_load_mid rfl 50 (.tmp 3) rfl I.heap.size 0 rfl JL _ a9.out.range Tryz.underlying50 rfl (by rw[ar.out];exact av.out) ?_)|(refine wpList_store_mid rfl 50 (.tmp 2) (.tmp 21) rfl w.heap.size 0 JL.toArray rfl rfl bz.out bo.out bb.out ?_));refine bodyPost_ret (v:=.agg JL.toArray) ?_ rfl ?_
  ·exact Qea rfl _ _ _ rfl (run_loadVar_mid _ w.heap.size 0 50 JL _ bE.out.range Tryz.underlying50 rfl (by rw[ar.out];exact av.out))
  have bD:=bt.out;subst bD;exact⟨Or.inl ⟨_,_,_,cf.out,rfl,⟨_,_,_,rfl,(show QbH w.heap.size j.outs _ _ from by unfold QbH;rw[bu.out];exact own_mono (by omega) (QcV (k:=w.heap.size) (by omega) _ _ _ a6.out)),(show QbH w.heap.size j.ins _ _ from own_mono (by omega) (QcV (k:=w.heap.size) (by omega) _ _ _ ce.out)),(show QbH w.heap.size j.cols _ _ from own_mono (by omega) (QcV (k:=w.heap.size) (by omega) _ _ _ cd.out))⟩,bj.out⟩,bh.out⟩
theorem Tryz.infoIn:(Tryz.prog.info? 57).map (fun i=>(i.zero,i.size,i.bytes))=some (some (.agg #[.int .i64 0,.string ⟨#[]⟩,.slice none 0 0]),3,48):=by kernel_rfl
theorem Tryz.infoJob:(Tryz.prog.info? 50).map (fun i=>(i.zero,i.size,i.bytes))=some (some (.agg #[.int .i64 0,.int .i64 0,.slice none 0 0,.slice none 0 0,.slice none 0 0,.string ⟨#[]⟩,.string ⟨#[]⟩,.int .i64 0,.int .i64 0,.string ⟨#[]⟩,.string ⟨#[]⟩,.int .i64 0,.int .i64 0,.string ⟨#[]⟩,.int .i64 0]),15,208):=by kernel_rfl
theorem Tryz.infoOut:(Tryz.prog.info? 60).map (fun i=>(i.zero,i.size,i.bytes))=some (some (.agg #[.int .i64 0,.string ⟨#[]⟩,.string ⟨#[]⟩]),3,40):=by kernel_rfl
def QkK:List FIn->List Value->List Value
 |a::l,v::vs=>[.int .i64 (a.at_:Nat),.string (ba a.name),v]++QkK l vs
 |_,_=>[]
def HI (w:World) (B:Nat):List FIn->List Value->Prop
 |[],[]=>True
 |a::l,v::vs=>Qet B a.cols v w/\HI w B l vs
 |_,_=>False
theorem HI.imp {w w':World} {B:Nat} (h:∀l v,Qet B l v w->Qet B l v w'):∀{l:List FIn} {y:List Value},HI w B l y->HI w' B l y
 |[],[],_=>trivial
 |a::l,v::y,hh=>⟨h _ _ hh.1,HI.imp h hh.2⟩
 |[],_::_,hh=>hh.elim
 |_::_,[],hh=>hh.elim
theorem HI.snoc {w:World} {B:Nat} {a:FIn} {v:Value} (y:Qet B a.cols v w):∀{l:List FIn} {h:List Value},HI w B l h->HI w B (l++[a]) (h++[v])/\QkK (l++[a]) (h++[v])=QkK l h++[.int .i64 (a.at_:Nat),.string (ba a.name),v]
 |[],[],_=>⟨⟨y,trivial⟩,rfl⟩
 |b::l,u::h,hh=>⟨⟨hh.1,(HI.snoc y hh.2).1⟩,by show _++QkK (l++[a]) (h++[v])=_;rw[(HI.snoc y hh.2).2];rfl⟩
 |[],_::_,hh=>hh.elim
 |_::_,[],hh=>hh.elim
def QdL:List FJob->List (Value×Value×Value)->List Value
 |j::l,v::vs=>jobV j v.1 v.2.1 v.2.2++QdL l vs
 |_,_=>[]
def HJ (w:World) (B:Nat):List FJob->List (Value×Value×Value)->Prop
 |[],[]=>True
 |j::l,v::vs=>(QbH B j.outs v.1 w/\QbH B j.ins v.2.1 w/\QbH B j.cols v.2.2 w)/\HJ w B l vs
 |_,_=>False
theorem HJ.imp {w w':World} {B:Nat} (h:∀l v,QbH B l v w->QbH B l v w'):∀{l:List FJob} {y:List (Value×Value×Value)},HJ w B l y->HJ w' B l y
 |[],[],_=>trivial
 |a::l,v::y,hh=>⟨⟨h _ _ hh.1.1,h _ _ hh.1.2.1,h _ _ hh.1.2.2⟩,HJ.imp h hh.2⟩
 |[],_::_,hh=>hh.elim
 |_::_,[],hh=>hh.elim
theorem HJ.snoc {w:World} {B:Nat} {j:FJob} {v:Value×Value×Value} (y:QbH B j.outs v.1 w/\QbH B j.ins v.2.1 w/\QbH B j.cols v.2.2 w):∀{l:List FJob} {h:List (Value×Value×Value)},HJ w B l h->HJ w B (l++[j]) (h++[v])/\QdL (l++[j]) (h++[v])=QdL l h++jobV j v.1 v.2.1 v.2.2
 |[],[],_=>⟨⟨y,trivial⟩,by simp[QdL]⟩
 |b::l,u::h,hh=>⟨⟨hh.1,(HJ.snoc y hh.2).1⟩,by show _++QdL (l++[j]) (h++[v])=_;rw[(HJ.snoc y hh.2).2];simp[QdL]⟩
 |[],_::_,hh=>hh.elim
 |_::_,[],hh=>hh.elim
def QeX (l:List FOut):List Value:=l.flatMap fun o=>[.int .i64 (o.at_:Nat),.string (ba o.name),.string (ba o.from_)]
theorem Qmq (l:List FOut) (o:FOut):QeX (l++[o])=QeX l++[.int .i64 (o.at_:Nat),.string (ba o.name),.string (ba o.from_)]:=by simp[QeX]
def QgY (w:World) (B:Nat) (l:List FIn) (v:Value):Prop:=∃vs,w.ownsRow B 57 3 v l.length (QkK l vs)/\HI w B l vs
def QgE (w:World) (B:Nat) (l:List FJob) (v:Value):Prop:=∃vs,w.ownsRow B 50 15 v l.length (QdL l vs)/\HJ w B l vs
theorem Qmr {w:World} {B B':Nat} {e J:TypeId} {z U n K:Nat} {v I:Value} {xs F:List Value} (H:e≠J) (h:w.ownsRow B e z v n xs) (M:w.ownsRow B' J U I K F):v.ownBlock=none\/v.ownBlock≠I.ownBlock:=by
 obtain⟨-,⟨rfl,-⟩|⟨g,aa,Z,rfl,-,V,-⟩⟩:=h
 ·exact Or.inl rfl
 ·obtain⟨-,⟨rfl,-⟩|⟨g',N,O,rfl,-,y,-⟩⟩:=M
  ·exact Or.inr (by simp[Value.ownBlock])
  ·refine Or.inr ?_;simp only[Value.ownBlock];intro D;injection D with D;subst D;rw[V] at y;simp at y;exact H y.2
theorem Qeb {w w':World} {B B':Nat} {e H:TypeId} {z K n I:Nat} {v F:Value} {xs y:List Value} (D:e≠H) (h:w.ownsRow B e z v n xs) (J:w.ownsRow B' H K F I y) (M:w.grownBy w' F.ownBlock):w'.ownsRow B e z v n xs:=
 h.kept M (Qmr D h J)
abbrev Keeps (w w':World) (B:Nat):Prop:=∀(e:TypeId) (z n:Nat) (v:Value) (xs:List Value),w.ownsRow B e z v n xs->w'.ownsRow B e z v n xs
theorem QgY.imp {w w':World} {B:Nat} {l:List FIn} {v:Value} (h:QgY w B l v) (y:∀(e:TypeId) (z n:Nat) (v:Value) (xs:List Value),(e=57\/e=64)->w.ownsRow B e z v n xs->w'.ownsRow B e z v n xs):QgY w' B l v:=by
 obtain⟨H,F,D⟩:=h;exact⟨H,y _ _ _ _ _ (Or.inl rfl) F,D.imp (fun l v hh=>y _ _ _ _ _ (Or.inr rfl) hh)⟩
theorem QgE.imp {w w':World} {B:Nat} {l:List FJob} {v:Value} (h:QgE w B l v) (y:∀(e:TypeId) (z n:Nat) (v:Value) (xs:List Value),(e=50\/e=9)->w.ownsRow B e z v n xs->w'.ownsRow B e z v n xs):QgE w' B l v:=by
 obtain⟨H,F,D⟩:=h;exact⟨H,y _ _ _ _ _ (Or.inl rfl) F,D.imp (fun l v hh=>y _ _ _ _ _ (Or.inr rfl) hh)⟩
structure FlowI (w:World) (B:Nat) (I:List FIn) (vs:List Value) (vi:Value):Prop where
 row:w.ownsRow B 57 3 vi I.length (QkK I vs)
 held:HI w B I vs
theorem FlowI.imp {w w':World} {B:Nat} {I:List FIn} {F:List Value} {y:Value} (h:FlowI w B I F y) (D:Keeps w w' B):FlowI w' B I F y:=⟨D _ _ _ _ _ h.row,h.held.imp (fun l v hh=>D _ _ _ _ _ hh)⟩
theorem FlowI.at {w:World} {B:Nat} {I:List FIn} {D:List Value} {y:Value} (h:FlowI w B I D y):QgY w B I y:=⟨D,h.row,h.held⟩
theorem FlowI.step {w w':World} {B:Nat} {I:List FIn} {D:List Value} {J H y:Value} {a:FIn} (h:FlowI w B I D J) (O:Qet B a.cols y w) (N:w.grownBy w' J.ownBlock) (M:w'.ownsRow B 57 3 H (I.length+1) (QkK I D++[.int .i64 (a.at_:Nat),.string (ba a.name),y])):FlowI w' B (I++[a]) (D++[y]) H:=by
 have F:∀l v,Qet B l v w->Qet B l v w':=fun l v hh=>Qeb (by decide) hh h.row N
 have K:=HI.snoc (F _ _ O) (h.held.imp F);exact⟨by rw[K.2,List.length_append];exact M,K.1⟩
structure FlowJ (w:World) (B:Nat) (I:List FIn) (vi:Value) (J:List FJob) (vs:List (Value×Value×Value)) (vj:Value):Prop where
 ins:QgY w B I vi
 row:w.ownsRow B 50 15 vj J.length (QdL J vs)
 held:HJ w B J vs
theorem FlowJ.imp {w w':World} {B:Nat} {I:List FIn} {F:Value} {J:List FJob} {H:List (Value×Value×Value)} {D:Value} (h:FlowJ w B I F J H D) (y:Keeps w w' B):FlowJ w' B I F J H D:=⟨h.ins.imp (fun e z n v xs _ hh=>y e z n v xs hh),y _ _ _ _ _ h.row,h.held.imp (fun l v hh=>y _ _ _ _ _ hh)⟩
theorem FlowJ.step {w w':World} {B:Nat} {I:List FIn} {U:Value} {J:List FJob} {K:List (Value×Value×Value)} {Z N D F H:Value} {j:FJob} (h:FlowJ w B I U J K Z) (M:QbH B j.outs D w/\QbH B j.ins F w/\QbH B j.cols H w) (O:w.grownBy w' Z.ownBlock) (ho:w'.ownsRow B 50 15 N (J.length+1) (QdL J K++jobV j D F H)):FlowJ w' B I U (J++[j]) (K++[(D,F,H)]) N:=by
 have y:∀l v,QbH B l v w->QbH B l v w':=fun l v hh=>Qeb (by decide) hh h.row O
 have V:=HJ.snoc (v:=(D,F,H)) ⟨y _ _ M.1,y _ _ M.2.1,y _ _ M.2.2⟩ (h.held.imp y);exact⟨h.ins.imp (fun e z n v xs he hh=>Qeb (by rcases he with rfl|rfl<;>decide) hh h.row O),by rw[V.2,List.length_append];exact ho,V.1⟩
structure FlowO (w:World) (B:Nat) (I:List FIn) (vi:Value) (J:List FJob) (vj:Value) (O:List FOut) (vo:Value):Prop where
 ins:QgY w B I vi
 jobs:QgE w B J vj
 row:w.ownsRow B 60 3 vo O.length (QeX O)
theorem FlowO.imp {w w':World} {B:Nat} {I:List FIn} {F:Value} {J:List FJob} {D:Value} {O:List FOut} {H:Value} (h:FlowO w B I F J D O H) (y:Keeps w w' B):FlowO w' B I F J D O H:=⟨h.ins.imp (fun e z n v xs _ hh=>y e z n v xs hh),h.jobs.imp (fun e z n v xs _ hh=>y e z n v xs hh),y _ _ _ _ _ h.row⟩
theorem FlowO.step {w w':World} {B:Nat} {I:List FIn} {F:Value} {J:List FJob} {y:Value} {O:List FOut} {H D:Value} {o:FOut} (h:FlowO w B I F J y O H) (K:w.grownBy w' H.ownBlock) (M:w'.ownsRow B 60 3 D (O.length+1) (QeX O++[.int .i64 (o.at_:Nat),.string (ba o.name),.string (ba o.from_)])):FlowO w' B I F J y (O++[o]) D:=
 ⟨h.ins.imp (fun e z n v xs he hh=>Qeb (by rcases he with rfl|rfl<;>decide) hh h.row K),h.jobs.imp (fun e z n v xs he hh=>Qeb (by rcases he with rfl|rfl<;>decide) hh h.row K),by rw[Qmq,List.length_append];exact M⟩
theorem FlowI.nil (w:World) (B:Nat):FlowI w B [] [] (.slice none 0 0):=⟨World.ownsRow_nil _ _ _ _,trivial⟩
theorem FlowJ.nil {w:World} {B:Nat} {I:List FIn} {y:Value} (h:QgY w B I y):FlowJ w B I y [] [] (.slice none 0 0):=⟨h,World.ownsRow_nil _ _ _ _,trivial⟩
theorem FlowO.nil {w:World} {B:Nat} {I:List FIn} {D:Value} {J:List FJob} {F:List (Value×Value×Value)} {y:Value} (h:FlowJ w B I D J F y):FlowO w B I D J y [] (.slice none 0 0):=⟨h.ins,⟨F,h.row,h.held⟩,World.ownsRow_nil _ _ _ _⟩
def Le {α:Type} (r:PE α) (n:Nat):Prop:=∀a t,r=.ok (a,t)->t.length<=n
theorem Le.ok {α:Type} {a:α} {t:List Tk} {n:Nat} (h:t.length<=n):Le (.ok (a,t):PE α) n:=by
 intro D y e;simp only[Except.ok.injEq,Prod.mk.injEq] at e;rw[<-e.2];exact h
theorem Le.err {α:Type} {e:Int×Nat} {n:Nat}:Le (.error e:PE α) n:=by intro a t h;cases h
theorem Le.wrong {α:Type} {c:Int} {ts:List Tk} {n:Nat}:Le (wrongP c ts:PE α) n:=Le.err
theorem Le.bind {α β:Type} {r:PE α} {K:α×List Tk->PE β} {n m:Nat} (h:Le r m) (y:∀a t,t.length<=m->Le (K (a,t)) n):Le (r.bind K) n:=by
 cases r with
 |error e=>exact Le.err
 |ok x=>exact y x.1 x.2 (h x.1 x.2 rfl)
theorem Le.map {α β:Type} {r:PE α} {f:α->β} {n:Nat} (h:Le r n):Le (r.map fun x=>(f x.1,x.2)) n:=by
 cases r with
 |error e=>exact Le.err
 |ok x=>exact Le.ok (h x.1 x.2 rfl)
theorem Le.mono {α:Type} {r:PE α} {n m:Nat} (h:Le r n) (y:n<=m):Le r m:=fun a t e=>Nat.le_trans (h a t e) y
theorem Qcj {ts:List Tk} {n:Nat} (h:ts.length<=n):ts.tail.length<=n:=by rw[List.length_tail];omega
theorem QgZ (x:By) (ts:List Tk):Le (QbA x ts) (ts.length-1):=by
 unfold QbA;split
 ·exact Le.ok (by rw[List.length_tail];omega)
 ·exact Le.wrong
theorem Qa6 (x:By) {ts:List Tk} {n:Nat} (h:ts.length<=n):Le (QbA x ts) n:=(QgZ x ts).mono (by omega)
theorem Qbw {ts:List Tk} {n:Nat} (h:ts.length<=n):Le (Qbd ts) n:=by
 unfold Qbd;split
 ·exact Le.wrong
 ·split
  ·exact Le.wrong
  ·exact Le.ok (Qcj h)
theorem Qms (m:Int) {ts:List Tk} {n:Nat} (h:ts.length<=n):Le (Qhh m ts) n:=by
 unfold Qhh;split
 ·exact Le.wrong
 ·split
  ·exact Le.wrong
  ·exact Le.ok (Qcj h)
theorem Qqq {ts:List Tk} {n:Nat} (h:ts.length<=n):Le (QkI ts) n:=by
 unfold QkI;split
 ·exact Le.wrong
 ·split
  ·exact Le.wrong
  ·exact Le.ok (Qcj h)
theorem Qmt (xs:List By) {ts:List Tk} {n:Nat} (h:ts.length<=n):Le (QcZ xs ts) n:=by
 unfold QcZ;split
 ·exact Le.ok (Qcj h)
 ·exact Le.wrong
theorem Qmu {ts:List Tk} {n:Nat} (h:ts.length<=n):Le (Qe5 ts) n:=by
 unfold Qe5;split
 ·exact Le.map (f:=fun x=>(x,0,0,[])) (Qbw h)
 ·split
  ·exact Le.map (f:=fun x=>([],2,0,x)) (Qqq h)
  ·split
   ·exact Le.map (f:=fun x=>([],1,-x,[])) (Qms _ (Qcj h))
   ·exact Le.map (f:=fun x=>([],1,x,[])) (Qms _ h)
theorem Qmv:∀(g:Nat) (acc:List By) (ts:List Tk) (n:Nat),ts.length<=n->Le (Qer g acc ts) n
 |0,acc,ts,n,h=>Le.ok h
 |g+1,acc,ts,n,h=>by
  unfold Qer;split
  ·exact Le.bind (Qbw (Qcj h)) (fun a t ht=>Qmv g _ t n ht)
  ·exact Le.ok h
theorem QjG {ts:List Tk} {n:Nat} (h:ts.length<=n):Le (Qcp ts) n:=Le.bind (Qbw h) (fun a t ht=>Qmv _ _ t n ht)
theorem Qh2 {ts:List Tk} {n:Nat} (h:ts.length<=n):Le (Qbe ts) n:=Le.bind (Qbw h) (fun a t ht=>by
 dsimp only
 split
 ·exact Le.ok (Qcj ht)
 ·split
  ·exact Le.ok (Qcj ht)
  ·exact Le.wrong)
theorem Qmw:∀(g:Nat) (acc:List (By×Int)) (ts:List Tk) (n:Nat),ts.length<=n->Le (QfO g acc ts) n
 |0,acc,ts,n,h=>Le.ok h
 |g+1,acc,ts,n,h=>by
  unfold QfO;split
  ·exact Le.bind (Qh2 (Qcj h)) (fun a t ht=>Qmw g _ t n ht)
  ·exact Le.ok h
theorem Qoj (ts:List Tk):Le (Qc0 ts) (ts.length-1):=
 Le.bind (QgZ _ ts) fun _ _ h1=>Le.bind (Qbw h1) fun _ _ h2=>Le.bind (Qa6 _ h2) fun _ _ h3=>Le.bind (Qh2 h3) fun _ _ h4=>Le.bind (Qmw _ _ _ _ h4) fun _ _ h5=>Le.bind (Qa6 _ h5) fun _ _ h6=>Le.ok h6
theorem QkL (ts:List Tk):Le (Qbs ts) (ts.length-1):=
 Le.bind (QgZ _ ts) fun _ _ h1=>Le.bind (Qbw h1) fun _ _ h2=>Le.bind (Qa6 _ h2) fun _ _ h3=>Le.bind (Qbw h3) fun _ _ h4=>Le.bind (Qa6 _ h4) fun _ _ h5=>Le.ok h5
theorem QpA {ts:List Tk} {n:Nat} (h:ts.length<=n):Le (Qch ts) n:=by
 unfold Qch;split
 ·exact Le.ok (Qcj h)
 ·exact Le.wrong
theorem QpB (at_:Nat) (outs:List By) (retry:Int) {ts:List Tk} {n:Nat} (h:ts.length<=n):Le (Qb8 at_ outs retry ts) n:=
 Le.bind (QpA h) fun _ _ h1=>Le.bind (Qbw h1) fun _ _ h2=>by
  dsimp only
  split
  ·exact Le.bind (Qa6 _ h2) fun _ _ h3=>Le.bind (Qbw h3) fun _ _ h4=>Le.bind (Qmt _ h4) fun _ _ h5=>Le.bind (Qmu h5) fun _ _ h6=>Le.ok h6
  ·split
   ·exact Le.bind (Qa6 _ h2) fun _ _ h3=>Le.bind (Qbw h3) fun _ _ h4=>Le.bind (Qa6 _ h4) fun _ _ h5=>Le.bind (Qmu h5) fun _ _ h6=>Le.bind (Qmt _ h6) fun _ _ h7=>Le.bind (Qmu h7) fun _ _ h8=>Le.ok h8
   ·split
    ·exact Le.bind (Qa6 _ h2) fun _ _ h3=>Le.bind (QjG h3) fun _ _ h4=>Le.ok h4
    ·split
     ·exact Le.bind (Qa6 _ h2) fun _ _ h3=>Le.bind (Qbw h3) fun _ _ h4=>Le.ok h4
     ·split
      ·exact Le.bind (Qa6 _ h2) fun _ _ h3=>Le.bind (Qbw h3) fun _ _ h4=>Le.bind (Qa6 _ h4) fun _ _ h5=>Le.bind (Qbw h5) fun _ _ h6=>Le.bind (Qa6 _ h6) fun _ _ h7=>Le.bind (Qbw h7) fun _ _ h8=>Le.ok h8
      ·split
       ·exact Le.bind (Qa6 _ h2) fun _ _ h3=>Le.bind (Qbw h3) fun _ _ h4=>Le.bind (Qmt _ h4) fun _ _ h5=>Le.bind (Qbw h5) fun _ _ h6=>Le.ok h6
       ·exact Le.ok h2
theorem Qok {ts:List Tk} {n:Nat} (h:ts.length<=n):Le (QfP ts) n:=by
 unfold QfP;split
 ·exact Qms _ (Qcj h)
 ·exact Le.ok h
theorem Qqr (ts:List Tk):Le (Qmm ts) (ts.length-1):=
 Le.bind (QgZ _ ts) fun _ _ h1=>Le.bind (QjG h1) fun _ _ h2=>Le.bind (Qok h2) fun _ _ h3=>Le.bind (Qa6 _ h3) fun _ _ h4=>Le.bind (QpB _ _ _ h4) fun _ _ h5=>Le.bind (Qa6 _ h5) fun _ _ h6=>Le.ok h6
end Go.Proofs.YtjlgejennghhlaaGreatDoor.Fw
