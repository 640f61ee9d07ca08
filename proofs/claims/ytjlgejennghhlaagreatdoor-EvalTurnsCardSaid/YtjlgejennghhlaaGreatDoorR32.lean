import Derived.Test.YtjlgejennghhlaaGreatDoorR01
import Derived.Test.YtjlgejennghhlaaGreatDoorR16
import Derived.Test.YtjlgejennghhlaaGreatDoorR09
import Derived.Test.YtjlgejennghhlaaGreatDoorR23
import Derived.Test.YtjlgejennghhlaaGreatDoorR31
set_option linter.unusedSimpArgs false
set_option linter.unusedVariables false
set_option linter.unusedSectionVars false
set_option maxRecDepth 1000000
set_option maxHeartbeats 16000000
namespace Go.Proofs.YtjlgejennghhlaaGreatDoor
open Go.RowKit
open Go.Sort (grow putRow putCells Holds)
def Kept (v:Value) (w w':World):Prop:=∀p:Addr,p.block<w.heap.size->v.ownBlock≠some p.block->w'.cell? p=w.cell? p
theorem QjF (v:Value) (w:World) (o:Obj):Kept v w (w.alloc o):=fun p hp _=>(Qaa w o).cell hp
theorem Kept.below {v:Value} {w w' y:World} (h:Kept v w w') (E:Below w'.heap.size w' y) (D:w.heap.size<=w'.heap.size):Kept v w y:=fun p hp hne=>(E.cell (Nat.lt_of_lt_of_le hp D)).trans (h p hp hne)
theorem QfI (v D:Value) (us:List Value) (rs:List (List Vl)) (B B2 m:Nat) (E:List Nat) (w:World) (hv:w.ownsRow B 84 1 v rs.length us) (hH:Qab w B us rs) (hl:∀r∈rs,r.length=m) (h1:1<=m) (h6:m<=100) (bF:rs.length<=100) (V:w.ownsRow B2 3 1 D E.length (intCells E)) (aZ:0<E.length) (a0:E.length<=100) (ak:∀k∈E,k<m) (am:B<=w.heap.size):
 Calls Tryz.prog 144 #[v,D] w fun e w'=>∃H F,e=.returned v/\Stb.Sorted (ltR E) F/\Stb.Same (ltR E) rs F/\w'.ownsRow B 84 1 v rs.length H/\Qab w' B H F/\Below B w w'/\Kept v w w':=by
 have bJ:=mkF;obtain⟨aa,aY,rfl⟩:=own_slice V;obtain⟨D,au⟩:∃q,q=Value.slice aa E.length aY:=⟨_,rfl⟩;rw[<-au] at V⊢;have hS:∃a c,v=.slice a rs.length c/\Calls Tryz.prog 174 #[.slice a rs.length c,.func (.func 175) #[] #[.pointer (some ⟨w.heap.size,0,none⟩)]] (w.alloc (.cells #[D] 73)) fun e w'=>e=.returned (.tuple #[])/\∃H F,Stb.Sorted (ltR E) F/\Stb.Same (ltR E) rs F/\w'.ownsRow B 84 1 (.slice a rs.length c) rs.length H/\Qab w' B H F/\Below B w w'/\Kept (.slice a rs.length c) w w':=by
  obtain⟨ax,⟨rfl,y⟩|⟨g,U,ai,rfl,aA,J,aK,aI,aG,ae⟩⟩:=hv
  ·refine⟨none,0,by rw[y],?_⟩;rw[y];refine(Qd4 none 0 _ _).mono ?_;rintro e w' ⟨rfl,rfl⟩;have Z:rs=[]:=List.length_eq_zero_iff.1 y;refine⟨rfl,[],rs,by rw[Z];exact List.Pairwise.nil,Stb.Same.refl _ _,World.ownsRow_nil _ _ _ _,by rw[Z];exact Qab.nil _ _,(Below.refl _ _).alloc am _,QjF _ _ _⟩
  ·refine⟨some ⟨g,0,none⟩,U,rfl,?_⟩;have aF:g<w.heap.size:=(Array.getElem?_eq_some_iff.1 J).1;rcases Nat.eq_zero_or_pos rs.length with y|bq
   ·rw[y];refine(Qd4 _ U _ _).mono ?_;rintro e w' ⟨rfl,rfl⟩;have Z:rs=[]:=List.length_eq_zero_iff.1 y;have bH:us=[]:=List.length_eq_zero_iff.1 (by rw[ax,y]);have ho:w.ownsRow B 84 1 (.slice (some ⟨g,0,none⟩) 0 U) 0 us:=⟨by rw[ax,y],.inr ⟨g,U,ai,by rw[<-y],aA,J,by omega,aI,aG,by rw[y] at ae;exact ae⟩⟩;exact⟨rfl,us,rs,by rw[Z];exact List.Pairwise.nil,Stb.Same.refl _ _,ho.alloc _,hH.below (Qaa _ _),(Below.refl _ _).alloc am _,QjF _ _ _⟩
   ·obtain⟨n,y⟩:∃n,rs.length=n+1:=⟨rs.length-1,by omega⟩;have K:us.length=n+1:=by rw[ax,y];omega
    have aH:∀k,k<w.heap.size->(w.alloc (.cells #[D] 73)).heap[k]? =w.heap[k]?:=(Qaa w _).block
    let enc:Fin (n+1)->Value:=fun i=>us[i.1]'(by rw[K];exact i.2)
    let row:Fin (n+1)->List Vl:=fun i=>rs[i.1]'(by rw[y];exact i.2)
    let cf:Fin (n+1)->Fin (n+1)->Int:=fun i j=>QdG E (row i) (row j)
    have M:∀i:Fin (n+1),∃b c cu,enc i=.slice (some ⟨b,0,none⟩) (row i).length c/\w.heap[b]? =some (.cells cu 46 (0,0))/\b<w.heap.size/\QaS w b 0 (row i)/\(row i).length=m/\b≠g:=by
     intro i;have hi:i.1<rs.length:=by rw[y];exact i.2
     have ah:(row i).length=m:=hl _ (List.getElem_mem hi);obtain⟨b,c,cu,q1,q2,q3,q4⟩:=QjA (hH.2 i.1 (by rw[K];exact i.2) hi).1 (hH.2 i.1 (by rw[K];exact i.2) hi).2 (by have:rs[i.1].length=m:=ah;omega);refine⟨b,c,cu,q1,q2,q3,q4,ah,?_⟩;rintro rfl;rw[J] at q2;simp at q2
    have ao:(List.finRange (n+1)).length=rs.length:=by rw[List.length_finRange,y]
    have bI:(List.finRange (n+1)).map enc=us:=by
     refine List.ext_getElem (by simp[K]) fun k h1 h2=>?_
     simp[enc]
    have a9:(List.finRange (n+1)).map row=rs:=by
     refine List.ext_getElem (by simp[y]) fun k h1 h2=>?_
     simp[row]
    have hO:OneCell enc:=by
     intro i;obtain⟨b,c,cu,q1,-⟩:=M i;rw[q1];rfl
    have a1:Holds enc (w.alloc (.cells #[D] 73)) g 0 (List.finRange (n+1)).toArray:=by
     intro j N;have hj':j<rs.length:=by rw[<-ao];simpa using N
     have hh:(w.alloc (.cells #[D] 73)).heap[g]? =some (.cells ai 84 (0,0)):=(aH g aF).trans J;refine⟨?_,by simp[World.frozen?,hh]⟩;have h1:(ai.toList.take rs.length)[j]? =us[j]?:=by rw[Nat.mul_one] at ae;rw[ae]
     rw[List.getElem?_take_of_lt hj'] at h1;simp only[World.cell?,hh,Nat.zero_add];simp only[Option.isSome_none,Bool.false_eq_true,if_false];rw[<-Array.getElem?_toList,h1,List.getElem?_eq_getElem (by rw[K];omega)];simp[enc,getElem!_pos,show j<n+1 by omega]
    have hR:Row1 enc (w.alloc (.cells #[D] 73)) g 0 (List.finRange (n+1)).toArray:=⟨hO,a1,by simp;omega⟩;obtain⟨ab,ac,aJ,-,aR,aX⟩:=QdL V aZ;have a3:ab≠g:=by
     obtain⟨-,⟨-,h0⟩|⟨g',bm,bk,aj,-,aw,-,-,-,-⟩⟩:=V
     ·omega
     rw[aJ] at aj;simp only[Value.slice.injEq,Option.some.injEq,Addr.mk.injEq] at aj;obtain⟨⟨rfl,-⟩,-,-⟩:=aj;rintro rfl;rw[J] at aw;simp at aw
    have aQ:CmpLays1 Tryz.prog 175 #[.pointer (some ⟨w.heap.size,0,none⟩)] enc cf g 0 (List.finRange (n+1)).toArray.size (w.alloc (.cells #[D] 73)):=by
     intro q os dk bE i j;obtain⟨b,c,cu,e1,e2,e3,e4,e5,e6⟩:=M i;obtain⟨b',c',bG,f1,f2,f3,f4,f5,f6⟩:=M j;have I:∀a:Addr,a.block≠g->a.block<w.heap.size->(sortWorld enc (w.alloc (.cells #[D] 73)) g 0 q dk os).cell? a=w.cell? a:=fun a h h'=>(Qbq enc _ g q dk os a h (by simp;omega)).trans ((Qaa w _).cell h')
     have bD:w.heap.size+1<=(sortWorld enc (w.alloc (.cells #[D] 73)) g 0 q dk os).heap.size:=by unfold sortWorld;simp
     have a4:(sortWorld enc (w.alloc (.cells #[D] 73)) g 0 q dk os).cell? ⟨w.heap.size,0,none⟩=some (.slice (some ⟨ab,0,none⟩) E.length ac):=by
      rw[Qbq enc _ g q dk os _ (by show w.heap.size≠g;omega) (by simp),<-aJ];simp
     have hh:=QfE b 0 c b' 0 c' ab 0 ac w.heap.size (row i) (row j) E (sortWorld enc (w.alloc (.cells #[D] 73)) g 0 q dk os) (by omega) (fun k O=>by obtain⟨z0,z1,z2⟩:=e4 k O;exact⟨(I _ e6 e3).trans z0,(I _ e6 e3).trans z1,(I _ e6 e3).trans z2⟩) (by omega) (fun k O=>by obtain⟨z0,z1,z2⟩:=f4 k O;exact⟨(I _ f6 f3).trans z0,(I _ f6 f3).trans z1,(I _ f6 f3).trans z2⟩) (by omega) (fun k O=>(I _ a3 aR).trans (aX k O)) (by omega) a4 (by rw[e5];exact ak) (by rw[f5];exact ak) a0 (by omega) (by omega);rw[e1,f1];exact hh
    have ho:Stb.Ord (ltOf cf):=⟨fun a b h=>(Qjz E).asymm _ _ h,fun a b c h h'=>(Qjz E).ntrans _ _ _ h h'⟩;refine(Stb.sortStable_any enc cf 175 #[.pointer (some ⟨w.heap.size,0,none⟩)] g 0 U rs.length (List.finRange (n+1)) (w.alloc (.cells #[D] 73)) ?eg aQ ho hR ao (by omega)).mono ?_
    case eg=>intro args W;first|rfl|kernel_rfl
    rintro e w' ⟨rfl,l,s1,s2,ad⟩;refine⟨rfl,l.map enc,l.map row,Stb.Sorted.map row s1,?_,?_,?_,?_,?_⟩
    ·have:=Stb.Same.map (Qjz E) row s2;rw[a9] at this;exact this
    ·obtain⟨q,os,rfl⟩:=ad;have a8:l.length=rs.length:=by rw[<-s2.len ho,ao]
     unfold sortWorld;exact owns_srt a8 aA ((aH g aF).trans J) aK aI aG
    ·obtain⟨q,os,rfl⟩:=ad;refine⟨by simp,fun j N hj'=>?_⟩;simp only[List.getElem_map];have hi:(l[j]'(by simpa using N)).1<rs.length:=by rw[y];exact(l[j]'(by simpa using N)).2
     have O:=hH.2 (l[j]'(by simpa using N)).1 (by rw[K];exact(l[j]'(by simpa using N)).2) hi;obtain⟨b,c,cu,e1,e2,e3,e4,e5,e6⟩:=M (l[j]'(by simpa using N));refine⟨(O.1.alloc _).kept (grown_srt (enc:=enc) (n:=q) (os:=os) l.toArray) ?_,O.2⟩;refine Or.inr ?_
     show(enc (l[j]'(by simpa using N))).ownBlock≠_
     rw[e1]
     show some b≠some g
     intro e;exact e6 (Option.some.inj e)
    ·obtain⟨q,os,rfl⟩:=ad;have bh:Below B w (w.alloc (.cells #[D] 73)):=(Below.refl _ _).alloc am _;have bg:=grown_srt (enc:=enc) (w:=w.alloc (.cells #[D] 73)) (g:=g) (n:=q) (os:=os) l.toArray;exact bh.grown bg (by simp;omega) (fun z hz=>by cases hz;exact aA)
    ·obtain⟨q,os,rfl⟩:=ad;intro p hp aW;have bb:p.block≠g:=fun e=>aW (by rw[e];rfl)
     exact(Qbq enc _ g q l.toArray os p bb (by simp;omega)).trans ((Qaa w _).cell hp)
 obtain⟨a,c,rfl,hS⟩:=hS;subst au;have HS:=Hk hS;clear hS hv hH hl ak V;go_enter Tryz.func144,Tryz.ntmps144;go_wp2_with (go_at_call 174;fail);refine HS.out.mono ?_;rintro e w2 ⟨rfl,hq⟩;have HF:=Hk hq;clear hq;go_wp2;go_ret;obtain⟨H,F,q1,q2,q3,q4,q5,q6⟩:=HF.out;exact⟨H,F,rfl,q1,q2,q3,q4,q5,q6⟩
end Go.Proofs.YtjlgejennghhlaaGreatDoor
namespace Go.Proofs.YtjlgejennghhlaaGreatDoor
open Go.RowKit
theorem QkS (tb E tk tcap:Nat) (vc vr:Value) (cs:List Cl) (rs:List (List Vl)) (j:Jb) (w:World) (nm:ByteArray) (K U cc at_:Nat) (H:j.code=2) (y:j.cols=.slice (some ⟨K,U,none⟩) 1 cc) (al:w.cell? ⟨K,U,none⟩=some (.string nm)) (av:K<w.heap.size) (aw:Qaq cs nm.data.toList=some at_) (ay:∀r∈rs,Qaz (Qb8 cs r j.left).2.1/\Qaz (Qb8 cs r j.right).2.1) (a3:0<tk) (V:tb<w.heap.size) (t0:w.cell? ⟨tb,E,none⟩=some vc) (t1:w.cell? ⟨tb,E+1,none⟩=some vr)
 (hc:Qax w vc cs) (hr:QaG w vr rs) (h1:1<=cs.length) (h6:cs.length<=100) (hl:∀r∈rs,r.length=cs.length) (am:rs.length<=100) (J:QdW cs j.left) (ar:QdW cs j.right):
 Calls Tryz.prog 102 #[.agg j.cells,.slice (some ⟨tb,E,none⟩) tk tcap] w fun e w'=>(((∀r∈rs,Qaz (Qi7 cs j r))/\∃v1 us1,e=.returned (.tuple #[v1,.slice none 0 0,.nilIface])/\w'.ownsRow w.heap.size 84 1 v1 rs.length us1/\Qab w' w.heap.size us1 (rs.map (Qmq cs j at_)))\/((∃r∈rs,¬Qaz (Qi7 cs j r))/\e=.returned (.tuple #[.slice none 0 0,.slice none 0 0,QbN 2])))/\Below w.heap.size w w':=by
 have a4:=mkF;have ap:=Hk (fun W (hW:Below w.heap.size w W)=>Qh0 vr rs cs.length W (hr.below hW) hl h1 h6 am);have aq:=Hk (fun v us W (hW:Below w.heap.size w W) hsz hv hH hp=>Qh3 v vc cs rs us j nm K U cc at_ (w.heap.size+1) W hv hH hp (fun W' hW'=>hc.below (hW.trans (hW'.mono (by omega)))) y (fun W' hW'=>((hW.trans (hW'.mono (by omega))).cell (p:=⟨K,U,none⟩) av).trans al) (Nat.lt_of_lt_of_le av hW.size) aw h1 h6 hl am J ar ay hsz);have htk':(0:Int)<(tk:Int):=by omega
 clear hl J ar ay aw al;obtain⟨va,ao,rfl,-⟩:=hc;obtain⟨ra,aF,rfl,-⟩:=hr;have ak:QaC (w.alloc (.cells j.cells 50)) w.heap.size j:=fun k v hk=>by rw[World.cell?_alloc_at _ _ _ _ rfl];exact hk
 have I:=Hk ak;clear ak;unfold Jb.cells at I⊢;rw[H,y] at I⊢;have N:=Hk (Ai H y);clear H y
 all_goals
  go_enter Tryz.func102,Tryz.ntmps102;go_wp2_with fail
  go_cut [7,8] (fun p v wx=>∃(ab:Nat) (us:List Value),p=.pointer (some ⟨ab,0,none⟩)/\wx.cell? ⟨ab,0,none⟩=some (.slice va cs.length ao)/\ab<wx.heap.size/\wx.ownsRow (w.heap.size+1) 84 1 v rs.length us/\Qab wx (w.heap.size+1) us rs/\us.Pairwise Apart/\QaC wx w.heap.size j/\Below w.heap.size w wx)
  case first=>
   go_region_held3 (fun w'=>w'.cell? ⟨tb,E,none⟩=some (.slice va cs.length ao)/\w'.cell? ⟨tb,E+1,none⟩=some (.slice ra rs.length aF))
    (first|(go_keep;done)|exact⟨(World.cell?_setCell_other _ _ _ _ (by intro e;simp at e;try omega)).trans k0,(World.cell?_setCell_other _ _ _ _ (by intro e;simp at e;try omega)).trans k1⟩)
    (first|(go_at_call 137;refine(ap.out _ (by first|exact(Qaa _ _).drew|exact(bel_box (Qaa _ _) _).drew)).mono ?_;rintro e w1 ⟨v1,us,rfl,J,aj,Z,F⟩;have D:=bel_then (show Below w.heap.size w _ from(by first|exact(Qaa _ _).drew|exact(bel_box (Qaa _ _) _).drew)) F;have k0:=cK D V t0;have k1:=cK D V t1;have a5:tb<w1.heap.size:=Nat.lt_of_lt_of_le V D.size;(try(have kb:=(F.cell (p:=⟨w.heap.size+1,0,none⟩) (by simp)).trans (show _=some (Value.slice none 0 0) by simp);have kf:=(F.frozen (p:=⟨w.heap.size+1,0,none⟩) (by simp)).trans (show _=false by simp);have kz:w.heap.size+1<w1.heap.size:=by(have:=F.size;simp at this;omega)))))
   all_goals go_wp2_with fail
   all_goals go_meet
   ·have ad:QaC w1 w.heap.size j:=fun k v hk=>(F.cell (p:=⟨w.heap.size,k,none⟩) (by simp)).trans (by simpa using I.out k v hk)
    exact⟨w1.heap.size,us,rfl,by simp,by simp,(own_mono (by simp) J).alloc _,(aj.mono (by simp)).below (Qaa _ _),Z,ad.below (Qaa _ _) (by have:=F.size;simp at this;omega),bel_box D _⟩
   ·have ad:QaC w1 w.heap.size j:=fun k v hk=>(F.cell (p:=⟨w.heap.size,k,none⟩) (by simp;omega)).trans (by simpa using I.out k v hk)
    exact⟨w.heap.size+1,us,rfl,World.cell?_setCell_same _ _ _ kb,by simpa using kz,own_mono (by simp) (ownsRow_setCell_below J (by simp) _),(Qab.set aj (by simp)).mono (by simp),Z,fun k v hk=>(World.cell?_setCell_other _ _ _ _ (by intro e;simp at e)).trans (ad k v hk),D.setCell (by show w.heap.size<=w.heap.size+1;omega) _⟩
  case rest=>
   obtain⟨ab,us,rfl,a2,aT,hv,hH,au,hJ,M⟩:=hcut;have a0:=M.size;have O:=aq.out u8 us wc M (by have:=hJ.lt;omega) hv hH au;have hJ':∀k v,(#[.int .i64 j.at_,.int .i64 2,j.outs,j.ins,.slice (some ⟨K,U,none⟩) 1 cc,.string j.op,.string j.left.1,.int .i64 j.left.2.1,.int .i64 j.left.2.2.1,.string j.left.2.2.2,.string j.right.1,.int .i64 j.right.2.1,.int .i64 j.right.2.2.1,.string j.right.2.2.2,.int .i64 j.retry]:Array Value)[k]? =some v->wc.cell? ⟨w.heap.size,k,none⟩=some v:=by
    have h:=hJ;unfold QaC Jb.cells at h;rw[N.out.1,N.out.2] at h;exact h
   unfold Jb.cells at O;rw[N.out.1,N.out.2] at O;have aJ:=Hk O;have j0:wc.cell? ⟨w.heap.size,0,none⟩=some (.int .i64 j.at_):=hJ' 0 _ rfl;have j1:wc.cell? ⟨w.heap.size,1,none⟩=some (.int .i64 2):=hJ' 1 _ rfl;have j2:wc.cell? ⟨w.heap.size,2,none⟩=some j.outs:=hJ' 2 _ rfl;have j3:wc.cell? ⟨w.heap.size,3,none⟩=some j.ins:=hJ' 3 _ rfl;have j4:wc.cell? ⟨w.heap.size,4,none⟩=some (.slice (some ⟨K,U,none⟩) 1 cc):=hJ' 4 _ rfl;have j5:wc.cell? ⟨w.heap.size,5,none⟩=some (.string j.op):=hJ' 5 _ rfl;have j6:wc.cell? ⟨w.heap.size,6,none⟩=some (.string j.left.1):=hJ' 6 _ rfl;have j7:wc.cell? ⟨w.heap.size,7,none⟩=some (.int .i64 j.left.2.1):=hJ' 7 _ rfl;have j8:wc.cell? ⟨w.heap.size,8,none⟩=some (.int .i64 j.left.2.2.1):=hJ' 8 _ rfl;have j9:wc.cell? ⟨w.heap.size,9,none⟩=some (.string j.left.2.2.2):=hJ' 9 _ rfl;have aX:wc.cell? ⟨w.heap.size,10,none⟩=some (.string j.right.1):=hJ' 10 _ rfl;have a1:wc.cell? ⟨w.heap.size,11,none⟩=some (.int .i64 j.right.2.1):=hJ' 11 _ rfl;have aY:wc.cell? ⟨w.heap.size,12,none⟩=some (.int .i64 j.right.2.2.1):=hJ' 12 _ rfl;have a6:wc.cell? ⟨w.heap.size,13,none⟩=some (.string j.right.2.2.2):=hJ' 13 _ rfl;have aZ:wc.cell? ⟨w.heap.size,14,none⟩=some (.int .i64 j.retry):=hJ' 14 _ rfl;have aW:=hJ.lt;have HB:=Hk M;obtain⟨xa,xc,rfl⟩:=own_slice hv;clear M hv hH hJ hJ' au O aq ap I t0 t1;go_wp2_with (go_at_call 142;refine aJ.out.mono ?_;rintro e w5 ⟨⟨aI,rfl,o1,o2⟩|⟨aD,rfl⟩,ax⟩)
   ·go_ret3
    exact⟨Or.inl ⟨aI,_,us,rfl,own_mono (by omega) o1,o2.mono (by omega)⟩,HB.out.trans (ax.mono (by omega))⟩
   ·go_ret3
    exact⟨Or.inr ⟨aD,rfl⟩,HB.out.trans (ax.mono (by omega))⟩
end Go.Proofs.YtjlgejennghhlaaGreatDoor
namespace Go.Proofs.YtjlgejennghhlaaGreatDoor.Fw
open Go.RowKit
theorem Tryz.infoIn:(Tryz.prog.info? 57).map (fun i=>(i.zero,i.size,i.bytes))=some (some (.agg #[.int .i64 0,.string ⟨#[]⟩,.slice none 0 0]),3,48):=by kernel_rfl
theorem Tryz.infoJob:(Tryz.prog.info? 50).map (fun i=>(i.zero,i.size,i.bytes))=some (some (.agg #[.int .i64 0,.int .i64 0,.slice none 0 0,.slice none 0 0,.slice none 0 0,.string ⟨#[]⟩,.string ⟨#[]⟩,.int .i64 0,.int .i64 0,.string ⟨#[]⟩,.string ⟨#[]⟩,.int .i64 0,.int .i64 0,.string ⟨#[]⟩,.int .i64 0]),15,208):=by kernel_rfl
theorem Tryz.infoOut:(Tryz.prog.info? 60).map (fun i=>(i.zero,i.size,i.bytes))=some (some (.agg #[.int .i64 0,.string ⟨#[]⟩,.string ⟨#[]⟩]),3,40):=by kernel_rfl
def QkW:List FIn->List Value->List Value
 |a::l,v::vs=>[.int .i64 (a.at_:Nat),.string (ba a.name),v]++QkW l vs
 |_,_=>[]
def HI (w:World) (B:Nat):List FIn->List Value->Prop
 |[],[]=>True
 |a::l,v::vs=>Qey B a.cols v w/\HI w B l vs
 |_,_=>False
theorem HI.imp {w w':World} {B:Nat} (h:∀l v,Qey B l v w->Qey B l v w'):∀{l:List FIn} {y:List Value},HI w B l y->HI w' B l y
 |[],[],_=>trivial
 |a::l,v::y,hh=>⟨h _ _ hh.1,HI.imp h hh.2⟩
 |[],_::_,hh=>hh.elim
 |_::_,[],hh=>hh.elim
theorem HI.snoc {w:World} {B:Nat} {a:FIn} {v:Value} (y:Qey B a.cols v w):∀{l:List FIn} {h:List Value},HI w B l h->HI w B (l++[a]) (h++[v])/\QkW (l++[a]) (h++[v])=QkW l h++[.int .i64 (a.at_:Nat),.string (ba a.name),v]
 |[],[],_=>⟨⟨y,trivial⟩,rfl⟩
 |b::l,u::h,hh=>⟨⟨hh.1,(HI.snoc y hh.2).1⟩,by show _++QkW (l++[a]) (h++[v])=_;rw[(HI.snoc y hh.2).2];rfl⟩
 |[],_::_,hh=>hh.elim
 |_::_,[],hh=>hh.elim
def QdQ:List FJob->List (Value×Value×Value)->List Value
 |j::l,v::vs=>jobV j v.1 v.2.1 v.2.2++QdQ l vs
 |_,_=>[]
def HJ (w:World) (B:Nat):List FJob->List (Value×Value×Value)->Prop
 |[],[]=>True
 |j::l,v::vs=>(QbK B j.outs v.1 w/\QbK B j.ins v.2.1 w/\QbK B j.cols v.2.2 w)/\HJ w B l vs
 |_,_=>False
theorem HJ.imp {w w':World} {B:Nat} (h:∀l v,QbK B l v w->QbK B l v w'):∀{l:List FJob} {y:List (Value×Value×Value)},HJ w B l y->HJ w' B l y
 |[],[],_=>trivial
 |a::l,v::y,hh=>⟨⟨h _ _ hh.1.1,h _ _ hh.1.2.1,h _ _ hh.1.2.2⟩,HJ.imp h hh.2⟩
 |[],_::_,hh=>hh.elim
 |_::_,[],hh=>hh.elim
theorem HJ.snoc {w:World} {B:Nat} {j:FJob} {v:Value×Value×Value} (y:QbK B j.outs v.1 w/\QbK B j.ins v.2.1 w/\QbK B j.cols v.2.2 w):∀{l:List FJob} {h:List (Value×Value×Value)},HJ w B l h->HJ w B (l++[j]) (h++[v])/\QdQ (l++[j]) (h++[v])=QdQ l h++jobV j v.1 v.2.1 v.2.2
 |[],[],_=>⟨⟨y,trivial⟩,by simp[QdQ]⟩
 |b::l,u::h,hh=>⟨⟨hh.1,(HJ.snoc y hh.2).1⟩,by show _++QdQ (l++[j]) (h++[v])=_;rw[(HJ.snoc y hh.2).2];simp[QdQ]⟩
 |[],_::_,hh=>hh.elim
 |_::_,[],hh=>hh.elim
def Qe0 (l:List FOut):List Value:=l.flatMap fun o=>[.int .i64 (o.at_:Nat),.string (ba o.name),.string (ba o.from_)]
theorem QmE (l:List FOut) (o:FOut):Qe0 (l++[o])=Qe0 l++[.int .i64 (o.at_:Nat),.string (ba o.name),.string (ba o.from_)]:=by simp[Qe0]
def Qg3 (w:World) (B:Nat) (l:List FIn) (v:Value):Prop:=∃vs,w.ownsRow B 57 3 v l.length (QkW l vs)/\HI w B l vs
def QgH (w:World) (B:Nat) (l:List FJob) (v:Value):Prop:=∃vs,w.ownsRow B 50 15 v l.length (QdQ l vs)/\HJ w B l vs
theorem QmF {w:World} {B B':Nat} {e I:TypeId} {z O n J:Nat} {v H:Value} {xs E:List Value} (F:e≠I) (h:w.ownsRow B e z v n xs) (K:w.ownsRow B' I O H J E):v.ownBlock=none\/v.ownBlock≠H.ownBlock:=by
 obtain⟨-,⟨rfl,-⟩|⟨g,Z,V,rfl,-,U,-⟩⟩:=h
 ·exact Or.inl rfl
 ·obtain⟨-,⟨rfl,-⟩|⟨g',M,N,rfl,-,y,-⟩⟩:=K
  ·exact Or.inr (by simp[Value.ownBlock])
  ·refine Or.inr ?_;simp only[Value.ownBlock];intro D;injection D with D;subst D;rw[U] at y;simp at y;exact F y.2
theorem Qeh {w w':World} {B B':Nat} {e F:TypeId} {z J n H:Nat} {v E:Value} {xs y:List Value} (D:e≠F) (h:w.ownsRow B e z v n xs) (I:w.ownsRow B' F J E H y) (K:w.grownBy w' E.ownBlock):w'.ownsRow B e z v n xs:=
 h.kept K (QmF D h I)
abbrev Keeps (w w':World) (B:Nat):Prop:=∀(e:TypeId) (z n:Nat) (v:Value) (xs:List Value),w.ownsRow B e z v n xs->w'.ownsRow B e z v n xs
theorem Qg3.imp {w w':World} {B:Nat} {l:List FIn} {v:Value} (h:Qg3 w B l v) (y:∀(e:TypeId) (z n:Nat) (v:Value) (xs:List Value),(e=57\/e=64)->w.ownsRow B e z v n xs->w'.ownsRow B e z v n xs):Qg3 w' B l v:=by
 obtain⟨F,E,D⟩:=h;exact⟨F,y _ _ _ _ _ (Or.inl rfl) E,D.imp (fun l v hh=>y _ _ _ _ _ (Or.inr rfl) hh)⟩
theorem QgH.imp {w w':World} {B:Nat} {l:List FJob} {v:Value} (h:QgH w B l v) (y:∀(e:TypeId) (z n:Nat) (v:Value) (xs:List Value),(e=50\/e=9)->w.ownsRow B e z v n xs->w'.ownsRow B e z v n xs):QgH w' B l v:=by
 obtain⟨F,E,D⟩:=h;exact⟨F,y _ _ _ _ _ (Or.inl rfl) E,D.imp (fun l v hh=>y _ _ _ _ _ (Or.inr rfl) hh)⟩
structure FlowI (w:World) (B:Nat) (I:List FIn) (vs:List Value) (vi:Value):Prop where
 row:w.ownsRow B 57 3 vi I.length (QkW I vs)
 held:HI w B I vs
theorem FlowI.imp {w w':World} {B:Nat} {I:List FIn} {E:List Value} {y:Value} (h:FlowI w B I E y) (D:Keeps w w' B):FlowI w' B I E y:=⟨D _ _ _ _ _ h.row,h.held.imp (fun l v hh=>D _ _ _ _ _ hh)⟩
theorem FlowI.at {w:World} {B:Nat} {I:List FIn} {D:List Value} {y:Value} (h:FlowI w B I D y):Qg3 w B I y:=⟨D,h.row,h.held⟩
theorem FlowI.step {w w':World} {B:Nat} {I:List FIn} {D:List Value} {H F y:Value} {a:FIn} (h:FlowI w B I D H) (N:Qey B a.cols y w) (M:w.grownBy w' H.ownBlock) (K:w'.ownsRow B 57 3 F (I.length+1) (QkW I D++[.int .i64 (a.at_:Nat),.string (ba a.name),y])):FlowI w' B (I++[a]) (D++[y]) F:=by
 have E:∀l v,Qey B l v w->Qey B l v w':=fun l v hh=>Qeh (by decide) hh h.row M
 have J:=HI.snoc (E _ _ N) (h.held.imp E);exact⟨by rw[J.2,List.length_append];exact K,J.1⟩
structure FlowJ (w:World) (B:Nat) (I:List FIn) (vi:Value) (J:List FJob) (vs:List (Value×Value×Value)) (vj:Value):Prop where
 ins:Qg3 w B I vi
 row:w.ownsRow B 50 15 vj J.length (QdQ J vs)
 held:HJ w B J vs
theorem FlowJ.imp {w w':World} {B:Nat} {I:List FIn} {E:Value} {J:List FJob} {F:List (Value×Value×Value)} {D:Value} (h:FlowJ w B I E J F D) (y:Keeps w w' B):FlowJ w' B I E J F D:=⟨h.ins.imp (fun e z n v xs _ hh=>y e z n v xs hh),y _ _ _ _ _ h.row,h.held.imp (fun l v hh=>y _ _ _ _ _ hh)⟩
theorem FlowJ.step {w w':World} {B:Nat} {I:List FIn} {O:Value} {J:List FJob} {H:List (Value×Value×Value)} {V M D E F:Value} {j:FJob} (h:FlowJ w B I O J H V) (K:QbK B j.outs D w/\QbK B j.ins E w/\QbK B j.cols F w) (N:w.grownBy w' V.ownBlock) (Z:w'.ownsRow B 50 15 M (J.length+1) (QdQ J H++jobV j D E F)):FlowJ w' B I O (J++[j]) (H++[(D,E,F)]) M:=by
 have y:∀l v,QbK B l v w->QbK B l v w':=fun l v hh=>Qeh (by decide) hh h.row N
 have U:=HJ.snoc (v:=(D,E,F)) ⟨y _ _ K.1,y _ _ K.2.1,y _ _ K.2.2⟩ (h.held.imp y);exact⟨h.ins.imp (fun e z n v xs he hh=>Qeh (by rcases he with rfl|rfl<;>decide) hh h.row N),by rw[U.2,List.length_append];exact Z,U.1⟩
structure FlowO (w:World) (B:Nat) (I:List FIn) (vi:Value) (J:List FJob) (vj:Value) (O:List FOut) (vo:Value):Prop where
 ins:Qg3 w B I vi
 jobs:QgH w B J vj
 row:w.ownsRow B 60 3 vo O.length (Qe0 O)
theorem FlowO.imp {w w':World} {B:Nat} {I:List FIn} {E:Value} {J:List FJob} {D:Value} {O:List FOut} {F:Value} (h:FlowO w B I E J D O F) (y:Keeps w w' B):FlowO w' B I E J D O F:=⟨h.ins.imp (fun e z n v xs _ hh=>y e z n v xs hh),h.jobs.imp (fun e z n v xs _ hh=>y e z n v xs hh),y _ _ _ _ _ h.row⟩
theorem FlowO.step {w w':World} {B:Nat} {I:List FIn} {E:Value} {J:List FJob} {y:Value} {O:List FOut} {F D:Value} {o:FOut} (h:FlowO w B I E J y O F) (H:w.grownBy w' F.ownBlock) (K:w'.ownsRow B 60 3 D (O.length+1) (Qe0 O++[.int .i64 (o.at_:Nat),.string (ba o.name),.string (ba o.from_)])):FlowO w' B I E J y (O++[o]) D:=
 ⟨h.ins.imp (fun e z n v xs he hh=>Qeh (by rcases he with rfl|rfl<;>decide) hh h.row H),h.jobs.imp (fun e z n v xs he hh=>Qeh (by rcases he with rfl|rfl<;>decide) hh h.row H),by rw[QmE,List.length_append];exact K⟩
theorem FlowI.nil (w:World) (B:Nat):FlowI w B [] [] (.slice none 0 0):=⟨World.ownsRow_nil _ _ _ _,trivial⟩
theorem FlowJ.nil {w:World} {B:Nat} {I:List FIn} {y:Value} (h:Qg3 w B I y):FlowJ w B I y [] [] (.slice none 0 0):=⟨h,World.ownsRow_nil _ _ _ _,trivial⟩
theorem FlowO.nil {w:World} {B:Nat} {I:List FIn} {D:Value} {J:List FJob} {E:List (Value×Value×Value)} {y:Value} (h:FlowJ w B I D J E y):FlowO w B I D J y [] (.slice none 0 0):=⟨h.ins,⟨E,h.row,h.held⟩,World.ownsRow_nil _ _ _ _⟩
end Go.Proofs.YtjlgejennghhlaaGreatDoor.Fw
