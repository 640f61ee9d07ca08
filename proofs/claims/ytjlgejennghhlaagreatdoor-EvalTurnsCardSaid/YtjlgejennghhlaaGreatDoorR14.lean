import Derived.Lib.AppendZeros
import Derived.Laws.AppendOwnNone
import Derived.Test.YtjlgejennghhlaaGreatDoorR01
import Derived.Test.YtjlgejennghhlaaGreatDoorR13
set_option linter.unusedSimpArgs false
set_option linter.unusedVariables false
set_option linter.unusedSectionVars false
set_option maxRecDepth 1000000
set_option maxHeartbeats 16000000
namespace Go.Proofs.YtjlgejennghhlaaGreatDoor
open Go.RowKit
theorem QiX (tb F tk tcap:Nat) (vc vr:Value) (cs:List Cl) (rs:List (List Vl)) (j:Jb) (w:World) (D:List ByteArray) (H:j.code=3) (hs:Qcm w j.cols D) (he:QaR cs D=0) (bh:0<tk) (V:tb<w.heap.size) (t0:w.cell? ⟨tb,F,none⟩=some vc) (t1:w.cell? ⟨tb,F+1,none⟩=some vr)
 (hc:Qax w vc cs) (hr:QaG w vr rs) (M:1<=cs.length) (h6:cs.length<=100) (hl:∀r∈rs,r.length=cs.length) (am:rs.length<=100):
 Calls Tryz.prog 102 #[.agg j.cells,.slice (some ⟨tb,F,none⟩) tk tcap] w fun e w'=>∃v1 us1,e=.returned (.tuple #[v1,.slice none 0 0,.nilIface])/\w'.ownsRow w.heap.size 84 1 v1 rs.length us1/\Qab w' w.heap.size us1 (rs.map (QbS (Qak cs D)))/\Below w.heap.size w w':=by
 have bi:=mkF;have ap:=Hk (fun W (hW:Below w.heap.size w W)=>Qa2 vr rs cs.length W (hr.below hW) hl M h6 am);obtain⟨l0,l6,J⟩:=QcF he;obtain⟨ca,cc,hj,aw,aQ,O⟩:=hs;rcases O with h|⟨nb,no,rfl,aX,O⟩
 ·rw[h] at l0;simp at l0
 obtain⟨cb,co,K,aL,az,ad⟩:=QbI hc M;have au:(Qak cs D).length=D.length:=by simp[Qak]
 have aq:=fun W (M:Below w.heap.size w W)=>Qd1 nb no cc cb co cs.length K D.length D (Qak cs D) cs W rfl (by omega) (by have:=M.size;omega) (O.below M aX) rfl h6 (by have:=M.size;omega) (ad.below M az) au (Qd3 J)
 have ai:=fun(v:Value) W g gc (hv:QaG W v rs) (hg:g<W.heap.size) (hi:QcE W g 0 (Qak cs D))=>QgV v rs g 0 gc (Qak cs D) W hv (fun r hr'=>⟨fun k hk=>by have:=QcG J k hk;have:=hl r hr';omega,by have:=hl r hr';omega⟩) (by omega) hg hi (by omega) am
 have ao:0<(Qak cs D).length:=by omega
 generalize aW:Qak cs D=ks at*;have aP:=Hk aq;have aE:=Hk ai;have HK:=Hk ao;clear aq ai au J l0 l6 he aW ao O aw aQ;have htk':(0:Int)<(tk:Int):=by omega
 clear hl;subst aL;clear hc ad;obtain⟨ra,aG,rfl,-⟩:=hr;have ak:QaC (w.alloc (.cells j.cells 50)) w.heap.size j:=fun k v hk=>by rw[World.cell?_alloc_at _ _ _ _ rfl];exact hk
 have I:=Hk ak;clear ak;unfold Jb.cells at I⊢;rw[H,hj] at I⊢;have ar:=Hk (Ai H hj);clear H hj
 all_goals
  go_enter Tryz.func102,Tryz.ntmps102;go_wp2_with fail
  go_cut [7,8] (fun p v wx=>∃(ab:Nat) (us:List Value),p=.pointer (some ⟨ab,0,none⟩)/\wx.cell? ⟨ab,0,none⟩=some (.slice (some ⟨cb,co,none⟩) cs.length K)/\ab<wx.heap.size/\wx.ownsRow (w.heap.size+1) 84 1 v rs.length us/\Qab wx (w.heap.size+1) us rs/\QaC wx w.heap.size j/\Below w.heap.size w wx)
  case first=>
   go_region_held3 (fun w'=>w'.cell? ⟨tb,F,none⟩=some (.slice (some ⟨cb,co,none⟩) cs.length K)/\w'.cell? ⟨tb,F+1,none⟩=some (.slice ra rs.length aG))
    (first|(go_keep;done)|exact⟨(World.cell?_setCell_other _ _ _ _ (by intro e;simp at e;try omega)).trans k0,(World.cell?_setCell_other _ _ _ _ (by intro e;simp at e;try omega)).trans k1⟩)
    (first|(go_at_call 137;refine(ap.out _ (by first|exact(Qaa _ _).drew|exact(bel_box (Qaa _ _) _).drew)).mono ?_;rintro e U ⟨v1,us,rfl,N,aj,y⟩;have E:=bel_then (show Below w.heap.size w _ from(by first|exact(Qaa _ _).drew|exact(bel_box (Qaa _ _) _).drew)) y;have k0:=cK E V t0;have k1:=cK E V t1;have bj:tb<U.heap.size:=Nat.lt_of_lt_of_le V E.size;(try(have kb:=(y.cell (p:=⟨w.heap.size+1,0,none⟩) (by simp)).trans (show _=some (Value.slice none 0 0) by simp);have kf:=(y.frozen (p:=⟨w.heap.size+1,0,none⟩) (by simp)).trans (show _=false by simp);have kz:w.heap.size+1<U.heap.size:=by(have:=y.size;simp at this;omega)))))
   all_goals go_wp2_with fail
   all_goals go_meet
   ·have ac:QaC U w.heap.size j:=fun k v hk=>(y.cell (p:=⟨w.heap.size,k,none⟩) (by simp)).trans (by simpa using I.out k v hk)
    exact⟨U.heap.size,us,rfl,by simp,by simp,(own_mono (by simp) N).alloc _,(aj.mono (by simp)).below (Qaa _ _),ac.below (Qaa _ _) (by have:=y.size;simp at this;omega),bel_box E _⟩
   ·have ac:QaC U w.heap.size j:=fun k v hk=>(y.cell (p:=⟨w.heap.size,k,none⟩) (by simp;omega)).trans (by simpa using I.out k v hk)
    exact⟨w.heap.size+1,us,rfl,World.cell?_setCell_same _ _ _ kb,by simpa using kz,own_mono (by simp) (ownsRow_setCell_below N (by simp) _),(Qab.set aj (by simp)).mono (by simp),fun k v hk=>(World.cell?_setCell_other _ _ _ _ (by intro e;simp at e)).trans (ac k v hk),E.setCell (by show w.heap.size<=w.heap.size+1;omega) _⟩
  case rest=>
   obtain⟨ab,us,rfl,bg,a6,hv,hH,hJ,Z⟩:=hcut;have be:=Z.size;have j1:wc.cell? ⟨w.heap.size,1,none⟩=some (.int .i64 3):=by have:=hJ 1 (.int .i64 j.code) rfl;rw[ar.out.1] at this;exact this
   have j4:wc.cell? ⟨w.heap.size,4,none⟩=some (.slice (some ⟨nb,no,none⟩) D.length cc):=by have:=hJ 4 j.cols rfl;rw[ar.out.2] at this;exact this
   have bd:=hJ.lt;have al:=QbX hv hH;have HB:=Hk (Ai Z al);obtain⟨xa,xc,rfl⟩:=own_slice hv;clear Z hv hH hJ al ap I t0 t1;go_wp2_with (first|(go_at_call 131;refine(aP.out _ HB.out.1).mono ?_;rintro e U ⟨v1,rfl,N,y⟩;obtain⟨g,gc,rfl,bk,aJ,aM⟩:=QdL N HK.out)|(go_at_call 143;refine(aE.out _ _ _ _ (HB.out.2.below y) aJ aM).mono ?_;rintro e w2 ⟨v2,aT,rfl,aS,aU,aR⟩))
   go_ret3
   have bf:=y.size;exact⟨_,aT,rfl,own_mono (by omega) aS,aU.mono (by omega),bel_then (bel_then HB.out.1 y) aR⟩
def Qgw (t:Tb) (ss:List ByteArray):Int:=if Qae t.1 t.2=false then 1 else QaR t.1 ss
theorem Qjv {t:Tb} {y:List ByteArray} (h:Qgw t y=0):Qae t.1 t.2=true/\QaR t.1 y=0:=by
 unfold Qgw at h;split at h
 ·cases h
 ·rename_i D;exact⟨by simpa using D,h⟩
theorem QkB {D:List Nat} {cs:List Cl} (h:∀x∈cs,x.1.size<=maxLen):∀x∈Qbd D cs,x.1.size<=maxLen:=by
 intro x y;obtain⟨k,-,rfl⟩:=List.mem_map.1 y
 by_cases hk:k<cs.length
 ·simp only[List.getElem?_eq_getElem hk,Option.getD_some];exact h _ (List.getElem_mem hk)
 ·rw[List.getElem?_eq_none (by omega)];exact Nat.zero_le _
theorem QkC (tb D tcap:Nat) (t:Tb) (j:Jb) (oa:Option Addr) (oc:Nat) (y:List ByteArray) (w:World) (h:j.code=3) (V:j.outs=.slice oa 1 oc) (U:Qcm w j.cols y) (ht:QaZ w tb D [t]) (I:tb<w.heap.size) (Z:Qgw t y=0):
 Calls Tryz.prog 61 #[.agg j.cells,.slice (some ⟨tb,D,none⟩) 1 tcap] w fun e w'=>∃g c,e=.returned (.tuple #[.slice (some ⟨g,0,none⟩) 1 c,.nilIface])/\w.heap.size<=g/\g<w'.heap.size/\QbR w' w.heap.size g [(Qbd (Qak t.1 y) t.1,t.2.map (QbS (Qak t.1 y)))]/\Below w.heap.size w w':=by
 have af:Qa3 j.code=(((1:Nat):Int),((1:Nat):Int)):=by rw[h];rfl
 obtain⟨hr,he⟩:=Qjv Z;obtain⟨O,aw,ag,aa⟩:=Qan hr;obtain⟨vc,vr,c0,c1,hc,ad⟩:=ht 0 (by simp);refine Qd0 tb D tcap [t] j w ht I (by simp) (by simp) (by intro x K;simp at K;rw[K];exact hr) (Qbd (Qak t.1 y) t.1) (t.2.map (QbS (Qak t.1 y))) [] (by simpa using ag) (QkB (Qbp hc)) ?_ (fun W E=>?_)
 ·intro W B g J us E ho hh;obtain⟨b,o,c,M,H,F,N⟩:=Qcs ho hh O;refine cols_ok _ oa J oc j 1 1 (Qbd (Qak t.1 y) t.1) W V af (by decide) (by decide) (fun W' hW'=>?_) (fun W' hW'=>QeN g 0 1 J b o t.1.length c t.1 y j W' h (by decide) (Nat.lt_of_lt_of_le H hW'.size) (cK hW' H M) ((U.below E).below hW') he rfl (by omega) (Nat.lt_of_lt_of_le F hW'.size) (N.below hW' F));have:=Qgv g 0 1 J b o t.1.length c t.1 y j W' h (by decide) (Nat.lt_of_lt_of_le H hW'.size) (cK hW' H M) ((U.below E).below hW') rfl (by omega) (Nat.lt_of_lt_of_le F hW'.size) (N.below hW' F);rw[he] at this;exact this
 ·refine(QiX tb D 1 tcap vc vr t.1 t.2 j W y h (U.below E) he (by decide) (Nat.lt_of_lt_of_le I E.size) ((E.cell (p:=⟨tb,D,none⟩) I).trans (by simpa using c0)) ((E.cell (p:=⟨tb,D+1,none⟩) I).trans (by simpa using c1)) (hc.below E) (ad.below E) O (by omega) aa (by omega)).mono ?_;rintro e w' ⟨v1,ai,h1,h2,h3,hb⟩;exact⟨v1,.slice none 0 0,ai,[],h1,by simpa using h2,h3,World.ownsRow_nil _ _ _ _,Qab.nil _ _,hb⟩
theorem Qn4 (n:Nat) (w:World) (V:n<=1000):
 Calls Tryz.prog 176 #[.slice none 0 0,.int .i64 n] w fun e w'=>∃v,e=.returned v/\w'.ownsRow w.heap.size 84 1 v 0 []/\Below w.heap.size w w':=by
 obtain⟨J,M,F,H,D⟩:=info_parts Tryz.infoRow
 by_cases h0:n=0
 ·subst h0;go_enter Tryz.func176,Tryz.ntmps176;go_wp2;go_ret;exact⟨_,rfl,World.ownsRow_nil _ _ _ _,Below.refl _ _⟩
 ·have E:∀ty,(Builtin.append_ #[52,3] ty #[.slice none 0 0,.int .i64 n]).run Tryz.prog w=_:=fun ty=>Lib.run_append_nil_zeros w 52 3 ty 84 J (.slice none 0 0) .i64 .i64 Tryz.underlying52 Tryz.underlying3 M F n (by omega) (by rw[H];decide) (by omega) (by rw[D];omega)
  have y:=grownCap_ge w n 0 84;have h:=grownCap_le_maxLen w n 0 84 (by unfold maxLen;omega);obtain⟨G,I⟩:∃G,G=grownCap w n 0 84:=⟨_,rfl⟩;rw[<-I] at E y h;have hle':(G:Int)<=9223372036854775807:=by unfold maxLen at h;omega
  have N:¬((n:Int)<0):=by omega
  have O:(0:Int)<(n:Int):=by omega
  have K:=Hk (fun(W:World) (U:W.heap.size=w.heap.size)=>World.ownsRow_made (base:=w.heap.size) (e:=84) (size:=1) W (Builtin.zeroCells (Value.slice none 0 0).cells n++Builtin.zeroCells (Value.slice none 0 0).cells (G-n)) G (by omega) h (by rw[Array.size_append,size_zeroCells,size_zeroCells];simp[Value.cells];omega));clear I;go_enter Tryz.func176,Tryz.ntmps176;go_wp2_with (at_builtin;refine Lib.wpList_append_run _ rfl _ _ _ _ rfl _ _ rfl rfl _ _ (E _) ?_);go_ret;exact⟨_,rfl,K.out w.drew rfl,bel_box (Below.refl _ _).drew _⟩
theorem QhN {w:World} {B:Nat} {v:Value} {n:Nat} {us:List Value} (h:w.ownsRow B 84 1 v n us):v=.slice none 0 0/\n=0/\us=[]\/∃g c,v=.slice (some ⟨g,0,none⟩) n c/\g<w.heap.size/\∀j u,us[j]? =some u->w.cell? ((⟨g,0,none⟩:Addr).add j)=some u:=by
 have h':=h;obtain⟨I,⟨rfl,D⟩|⟨g,y,E,rfl,K,J,D,H,_,_⟩⟩:=h
 ·refine Or.inl ⟨rfl,D,List.length_eq_zero_iff.1 (by omega)⟩
 ·refine Or.inr ⟨g,y,rfl,(h'.lt g rfl).2,fun j u hj=>?_⟩;have F:j<us.length:=(List.getElem?_eq_some_iff.1 hj).1;have e:=h'.cellAt j (by omega);rw[Addr.add_mid,Nat.zero_add,e,hj]
theorem QkD (Z F N:Nat) (v1 v2:Value) (M O:List Value) (B1 B2:Nat) (w:World) (av:Z<w.heap.size) (c0:w.cell? ⟨Z,0,none⟩=some v1) (c1:w.cell? ⟨Z,1,none⟩=some v2) (h1:w.ownsRow B1 84 1 v1 F M) (h2:w.ownsRow B2 84 1 v2 N O) (aP:F<=100) (aQ:N<=100) (ho:∀u∈M++O,u.oneCell'=true):
 Calls Tryz.prog 145 #[.slice (some ⟨Z,0,none⟩) 2 2] w fun e w'=>∃v,e=.returned v/\w'.ownsRow w.heap.size 84 1 v (F+N) (M++O)/\Below w.heap.size w w':=by
 obtain⟨i0,hi,ak,ao,ap⟩:=info_parts Tryz.infoRow;have HG:=Hk (Qn4 (F+N) w (by omega));have HW:=Hk (Ai h1 (Ai h2 ho));have ar:M.length=F:=by have:=h1.1;omega
 have am:O.length=N:=by have:=h2.1;omega
 have HL:=Hk (Ai ar am);have aI:wrap64 ((F:Int)+(N:Int))=((F+N:Nat):Int):=by unfold wrap64;omega
 obtain⟨a1,k1,rfl⟩:=own_slice h1;obtain⟨a2,k2,rfl⟩:=own_slice h2;clear h1 h2 ho ar am;go_enter Tryz.func145,Tryz.ntmps145;go_wp2;go_loopw [3,11] (fun s i wr=>wr=w/\∃k:Nat,k<=2/\i=.int .i64 k/\s=.int .i64 ((if k=0 then 0 else if k=1 then F else F+N:Nat):Int)) (fun _ i _=>2-(intOf i).toNat)
 case atStart=>exact⟨rfl,0,by omega,rfl,rfl⟩
 case round=>
  obtain⟨al,k,hk,rfl,rfl⟩:=hrel;have hww':=al.symm;subst hww';clear al;have ac:k=0\/k=1\/k=2:=by omega
  rcases ac with rfl|rfl|rfl
  ·have aw:¬((F:Int)<0):=by omega
   go_wp2
   all_goals go_roundw
   case rel=>exact⟨by first|trivial|rfl,1,by omega,by go_num,by simp⟩
   case measure=>simp[intOf]
  ·have aw:¬(((F+N:Nat):Int)<0):=by omega
   go_wp2
   all_goals go_roundw
   case rel=>exact⟨by first|trivial|rfl,2,by omega,by go_num,by simp⟩
   case measure=>simp[intOf]
  ·go_wp2_with (go_at_call 176;refine HG.out.mono ?_;rintro e w1 ⟨v,rfl,aq,au⟩);have HS:=Hk (Ai aq au);clear aq au HG;go_loopw [6,27] (fun l i wr=>∃k:Nat,k<=2/\i=.int .i64 k/\wr.ownsRow w.heap.size 84 1 l (if k=0 then 0 else if k=1 then F else F+N) (if k=0 then[] else if k=1 then M else M++O)/\Below w.heap.size w wr) (fun _ i _=>2-(intOf i).toNat)
   case atStart=>exact⟨0,by omega,rfl,HS.out.1,HS.out.2⟩
   case round=>
    obtain⟨k,hk,rfl,h,y⟩:=hrel;have ac:k=0\/k=1\/k=2:=by omega
    have aO:=y.size;have d0:=cK y av c0;have d1:=cK y av c1;rcases ac with rfl|rfl|rfl
    ·simp only[if_pos] at h;obtain⟨la,lc,rfl⟩:=own_slice h;have V:=QhN (owns_below HW.out.1 y);have E:=Hk (Ai h y);clear h y;rcases V with ⟨K,hz,U⟩|⟨g,gc,K,aG,D⟩
     ·simp only[Value.slice.injEq] at K;obtain⟨rfl,-,rfl⟩:=K;have HZ:=Hk (Ai hz U);subst hz;clear U;go_wp2_with (at_builtin;refine wpList_append_own_none rfl _ _ 52 rfl w.heap.size 84 i0 1 Tryz.underlying52 hi _ _ _ rfl E.out.1 rfl ?_);go_roundw
      case rel=>exact⟨.slice la 0 lc,_,.int .i64 1,⟨1,by omega,by simp,by rw[HZ.out.2];simpa using E.out.1,E.out.2⟩,rfl,rfl,rfl⟩
      case measure=>simp[intOf]
     ·simp only[Value.slice.injEq,true_and] at K;obtain⟨rfl,rfl⟩:=K;have HC:=Hk D;clear D;go_wp2_with (at_builtin;refine wpList_append_own _ rfl _ _ 52 rfl w.heap.size 84 i0 (.slice none 0 0) 1 24 Tryz.underlying52 hi ak ao ap rfl (by decide) _ _ _ rfl E.out.1 ⟨g,0,none⟩ F k1 M rfl ?c0 HC.out ?c2 ?c3 ?c4 ?c5 ?_)
      case c0=>have:=HL.out.1;omega
      case c2=>exact fun u U=>HW.out.2.2 u (List.mem_append_left _ U)
      case c3=>unfold maxLen;omega
      case c4=>omega
      case c5=>omega
      intro v' w5 I H _;have J:Below w.heap.size w w5:=E.out.2.grown H (by omega) (fun q hq=>(E.out.1.lt q hq).1);have HF:=Hk (Ai I J);clear I H J;go_wp2;go_roundw
      case rel=>exact⟨1,by omega,by go_num,by simpa using HF.out.1,HF.out.2⟩
      case measure=>simp[intOf]
    ·simp only[if_neg,if_pos] at h;obtain⟨la,lc,rfl⟩:=own_slice h;have V:=QhN (owns_below HW.out.2.1 y);have E:=Hk (Ai h y);clear h y;rcases V with ⟨K,hz,U⟩|⟨g,gc,K,aG,D⟩
     ·simp only[Value.slice.injEq] at K;obtain⟨rfl,-,rfl⟩:=K;have HZ:=Hk (Ai hz U);subst hz;clear U;go_wp2_with (at_builtin;refine wpList_append_own_none rfl _ _ 52 rfl w.heap.size 84 i0 1 Tryz.underlying52 hi _ _ _ rfl E.out.1 rfl ?_);go_roundw
      case rel=>exact⟨.slice la F lc,_,.int .i64 2,⟨2,by omega,by simp,by rw[HZ.out.2];simpa using E.out.1,E.out.2⟩,rfl,rfl,rfl⟩
      case measure=>simp[intOf]
     ·simp only[Value.slice.injEq,true_and] at K;obtain⟨rfl,rfl⟩:=K;have HC:=Hk D;clear D;go_wp2_with (at_builtin;refine wpList_append_own _ rfl _ _ 52 rfl w.heap.size 84 i0 (.slice none 0 0) 1 24 Tryz.underlying52 hi ak ao ap rfl (by decide) _ _ _ rfl E.out.1 ⟨g,0,none⟩ N k2 O rfl ?c0 HC.out ?c2 ?c3 ?c4 ?c5 ?_)
      case c0=>have:=HL.out.2;omega
      case c2=>exact fun u U=>HW.out.2.2 u (List.mem_append_right _ U)
      case c3=>unfold maxLen;omega
      case c4=>omega
      case c5=>omega
      intro v' w5 I H _;have J:Below w.heap.size w w5:=E.out.2.grown H (by omega) (fun q hq=>(E.out.1.lt q hq).1);have HF:=Hk (Ai I J);clear I H J;go_wp2;go_roundw
      case rel=>exact⟨2,by omega,by go_num,by simpa using HF.out.1,HF.out.2⟩
      case measure=>simp[intOf]
    ·have E:=Hk (Ai h y);obtain⟨la,lc,hl⟩:=own_slice h;subst hl;clear h y;go_wp2;go_ret;exact⟨_,rfl,by simpa using E.out.1,E.out.2⟩
theorem Qpf {a b:ByteArray} (h:a.data.toList=b.data.toList):a=b:=by
 obtain⟨⟨a⟩⟩:=a;obtain⟨⟨b⟩⟩:=b;simp only at h;rw[h]
theorem Qpg (b o c I M c' n F:Nat) (cs D:List Cl) (w:World) (hn:cs.length=n) (J:D.length=F) (h8:n<=100) (aw:F<=100) (hb:b<w.heap.size) (V:I<w.heap.size) (hc:Qau w b o cs) (O:Qau w I M D) (H:cs≠D):
 Calls Tryz.prog 14 #[.slice (some ⟨b,o,none⟩) n c,.slice (some ⟨I,M,none⟩) F c'] w fun e w'=>e=.returned (.bool false)/\Below w.heap.size w w':=by
 by_cases ak:n=F
 ·subst ak;have HN:=Hk (Ai hn (Ai J H));clear hn J H;go_enter Tryz.func14,Tryz.ntmps14;go_wp2;go_loopw [13] (fun i wr=>∃k:Nat,k<=n/\i=.int .i64 k/\(∀q (h:q<cs.length) (h':q<D.length),q<k->cs[q]=D[q])/\Below w.heap.size w wr) (fun i _=>n-(intOf i).toNat)
  case atStart=>exact⟨0,Nat.zero_le _,rfl,fun q _ _ h=>absurd h (by omega),Below.refl _ _⟩
  case round=>
   obtain⟨k,hk,rfl,Z,E⟩:=hrel;have HA:=Hk Z;clear Z
   by_cases hlt:k<n
   ·have ag:k<cs.length:=by have:=HN.out.1;omega
    have hk2':k<D.length:=by have:=HN.out.2.1;omega
    obtain⟨c1,c2⟩:=hc k ag;have d1:=cK E hb c1;have d2:=cK E hb c2;obtain⟨c3,c4⟩:=O k hk2';have d3:=cK E V c3;have d4:=cK E V c4;clear c1 c2 c3 c4;obtain⟨x,hx⟩:∃x,cs[k]=x:=⟨_,rfl⟩;obtain⟨y,hy⟩:∃y,D[k]=y:=⟨_,rfl⟩;rw[hx] at d1 d2;rw[hy] at d3 d4;have aa:=Hk (Ai hx hy);clear hx hy
    by_cases K:x.1.toList=y.1.toList
    ·by_cases e2:x.2=y.2
     ·have U:x=y:=Prod.ext (Qpf (by rw[ByteArray.toList_eq,ByteArray.toList_eq] at K;exact K)) e2;have HE:=Hk (show cs[k]=D[k] by rw[aa.out.1,aa.out.2];exact U);subst U;clear K e2;go_wp2;go_quiet (fail);go_wp2;go_roundw
      case rel=>
       refine⟨k+1,by omega,by go_num,fun q h h' hq=>?_,below_drewN E _⟩;rcases Nat.lt_or_ge q k with N|N
       ·exact HA.out q h h' N
       ·obtain rfl:q=k:=by omega
        exact HE.out
      case measure=>simp[intOf];omega
     ·have e2':(x.2==y.2)=false:=by simp[e2]
      have e1':(x.1.toList==y.1.toList)=true:=by simp[K]
      go_wp2;go_quiet (fail);go_wp2
      all_goals go_ret
      all_goals exact⟨rfl,below_drewN E _⟩
    ·have e1':(x.1.toList==y.1.toList)=false:=by simp[K]
     go_wp2;go_quiet (fail);go_wp2
     all_goals go_ret
     all_goals exact⟨rfl,below_drewN E _⟩
   ·exfalso;obtain⟨h1,h2,h3⟩:=HN.out;exact h3 (List.ext_getElem (by omega) fun q hq hq'=>HA.out q hq hq' (by omega))
 ·have hnn':((n:Int) != (F:Int))=true:=by simp;omega
  clear H hn J hc O;go_enter Tryz.func14,Tryz.ntmps14;go_wp2;go_ret;exact⟨rfl,Below.refl _ _⟩
noncomputable def QdF (cs cs':List Cl):Int:=by classical exact if cs=cs' then 0 else 13
theorem QdM (K Z ab b o c F M V:Nat) (cs h:List Cl) (j:Jb) (w:World) (E:j.code=5) (ad:K<w.heap.size) (h0:w.cell? ⟨K,Z,none⟩=some (.slice (some ⟨b,o,none⟩) cs.length c)) (y:w.cell? ⟨K,Z+1,none⟩=some (.slice (some ⟨F,M,none⟩) h.length V)) (h8:cs.length<=60) (ae:h.length<=60) (O:b<w.heap.size) (J:F<w.heap.size) (N:Qau w b o cs) (D:Qau w F M h):
 Calls Tryz.prog 96 #[.agg j.cells,.slice (some ⟨K,Z,none⟩) 2 ab] w fun e w'=>e=.returned (QbN (QdF cs h))/\Below w.heap.size w w':=by
 obtain⟨code,U⟩:∃k,j.code=k:=⟨_,rfl⟩;unfold Jb.cells;rw[U] at E⊢;clear U;subst E
 by_cases he:cs=h
 ·subst he;have H:QdF cs cs=0:=by unfold QdF;rw[if_pos rfl]
  rw[H,QeK];have HT:=Hk (fun W (y:Below w.heap.size w W)=>Qpc b o c F M V cs.length cs W rfl (by omega) (by have:=y.size;omega) (by have:=y.size;omega) (N.below y O) (D.below y J));clear H N D;go_enter Tryz.func96,Tryz.ntmps96;go_wp2_with (go_at_call 14;refine(HT.out _ (Qaa _ _)).mono ?_;rintro e w1 ⟨rfl,I⟩);go_ret;exact⟨rfl,bel_then (Qaa _ _) I⟩
 ·have H:QdF cs h=13:=by unfold QdF;rw[if_neg he]
  rw[H,QaT (by decide)];have HT:=Hk (fun W (y:Below w.heap.size w W)=>Qpg b o c F M V cs.length h.length cs h W rfl rfl (by omega) (by omega) (by have:=y.size;omega) (by have:=y.size;omega) (N.below y O) (D.below y J) he);clear H N D he;go_enter Tryz.func96,Tryz.ntmps96;go_wp2_with (go_at_call 14;refine(HT.out _ (Qaa _ _)).mono ?_;rintro e w1 ⟨rfl,I⟩);go_ret;exact⟨rfl,bel_then (Qaa _ _) I⟩
theorem Qab.append {w:World} {B:Nat} {us E:List Value} {rs F:List (List Vl)} (h:Qab w B us rs) (H:Qab w B E F):Qab w B (us++E) (rs++F):=by
 refine⟨by simp[h.1,H.1],fun j hj hj'=>?_⟩
 by_cases y:j<us.length
 ·have hlt':j<rs.length:=by rw[<-h.1];exact y
  simp only[List.getElem_append_left y,List.getElem_append_left hlt'];exact h.2 j y hlt'
 ·have D:us.length<=j:=by omega
  have hge':rs.length<=j:=by rw[<-h.1];exact D
  simp only[List.getElem_append_right D,List.getElem_append_right hge',h.1];have:=H.2 (j-rs.length) (by rw[List.length_append] at hj;rw[<-h.1];omega) (by rw[List.length_append] at hj';omega);exact this
theorem Qn5 {w I:World} {B B':Nat} {us E:List Value} {rs H:List (List Vl)} (h:Qab w B us rs) (F:Qab I B' E H):∀u∈us++E,u.oneCell'=true:=by
 intro u D;rcases List.mem_append.1 D with D|D
 ·obtain⟨j,y,rfl⟩:=List.mem_iff_getElem.1 D;obtain⟨a,c,e⟩:=own_slice (h.2 j y (by rw[<-h.1];exact y)).1;rw[e];rfl
 ·obtain⟨j,y,rfl⟩:=List.mem_iff_getElem.1 D;obtain⟨a,c,e⟩:=own_slice (F.2 j y (by rw[<-F.1];exact y)).1;rw[e];rfl
theorem QhO (tb tcap:Nat) (vc vr O:Value) (cs:List Cl) (rs y:List (List Vl)) (j:Jb) (w:World) (E:j.code=5) (M:tb<w.heap.size) (t0:w.cell? ⟨tb,0,none⟩=some vc) (t1:w.cell? ⟨tb,1,none⟩=some vr) (t3:w.cell? ⟨tb,3,none⟩=some O)
 (hc:Qax w vc cs) (hr:QaG w vr rs) (af:QaG w O y) (ag:∀r∈y,r.length=cs.length) (U:y.length<=100) (h1:1<=cs.length) (h6:cs.length<=100) (hl:∀r∈rs,r.length=cs.length) (ad:rs.length<=100):
 Calls Tryz.prog 102 #[.agg j.cells,.slice (some ⟨tb,0,none⟩) 2 tcap] w fun e w'=>∃v1 us1,e=.returned (.tuple #[v1,.slice none 0 0,.nilIface])/\w'.ownsRow w.heap.size 84 1 v1 (rs++y).length us1/\Qab w' w.heap.size us1 (rs++y)/\Below w.heap.size w w':=by
 have aP:=mkF;have ai:=Hk (fun W (hW:Below w.heap.size w W)=>Qa2 vr rs cs.length W (hr.below hW) hl h1 h6 ad);have aA:=Hk (fun W (hW:Below w.heap.size w W)=>Qa2 O y cs.length W (af.below hW) ag h1 h6 U);clear hl ag;obtain⟨va,ah,rfl,-⟩:=hc;obtain⟨ra,aq,rfl,-⟩:=hr;obtain⟨aU,aJ,rfl,-⟩:=af;have aj:QaC (w.alloc (.cells j.cells 50)) w.heap.size j:=fun k v hk=>by rw[World.cell?_alloc_at _ _ _ _ rfl];exact hk
 have F:=Hk aj;clear aj;unfold Jb.cells at F⊢;rw[E] at F⊢;have aE:=Hk E;clear E
 all_goals
  go_enter Tryz.func102,Tryz.ntmps102;go_wp2_with fail
  go_cut [7,8] (fun p v wx=>∃(ab:Nat) (us:List Value),p=.pointer (some ⟨ab,0,none⟩)/\wx.cell? ⟨ab,0,none⟩=some (.slice va cs.length ah)/\ab<wx.heap.size/\wx.ownsRow (w.heap.size+1) 84 1 v rs.length us/\Qab wx (w.heap.size+1) us rs/\QaC wx w.heap.size j/\Below w.heap.size w wx)
  case first=>
   go_region_held3 (fun w'=>w'.cell? ⟨tb,0,none⟩=some (.slice va cs.length ah)/\w'.cell? ⟨tb,1,none⟩=some (.slice ra rs.length aq))
    (first|(go_keep;done)|exact⟨(World.cell?_setCell_other _ _ _ _ (by intro e;simp at e;try omega)).trans k0,(World.cell?_setCell_other _ _ _ _ (by intro e;simp at e;try omega)).trans k1⟩)
    (first|(go_at_call 137;refine(ai.out _ (by first|exact(Qaa _ _).drew|exact(bel_box (Qaa _ _) _).drew)).mono ?_;rintro e J ⟨v1,us,rfl,I,H,h⟩;have D:=bel_then (show Below w.heap.size w _ from(by first|exact(Qaa _ _).drew|exact(bel_box (Qaa _ _) _).drew)) h;have k0:=cK D M t0;have k1:=cK D M t1;have aR:tb<J.heap.size:=Nat.lt_of_lt_of_le M D.size;(try(have kb:=(h.cell (p:=⟨w.heap.size+1,0,none⟩) (by simp)).trans (show _=some (Value.slice none 0 0) by simp);have kf:=(h.frozen (p:=⟨w.heap.size+1,0,none⟩) (by simp)).trans (show _=false by simp);have kz:w.heap.size+1<J.heap.size:=by(have:=h.size;simp at this;omega)))))
   all_goals go_wp2_with fail
   all_goals go_meet
   ·have N:QaC J w.heap.size j:=fun k v hk=>(h.cell (p:=⟨w.heap.size,k,none⟩) (by simp)).trans (by simpa using F.out k v hk)
    exact⟨J.heap.size,us,rfl,by simp,by simp,(own_mono (by simp) I).alloc _,(H.mono (by simp)).below (Qaa _ _),N.below (Qaa _ _) (by have:=h.size;simp at this;omega),bel_box D _⟩
   ·have N:QaC J w.heap.size j:=fun k v hk=>(h.cell (p:=⟨w.heap.size,k,none⟩) (by simp;omega)).trans (by simpa using F.out k v hk)
    exact⟨w.heap.size+1,us,rfl,World.cell?_setCell_same _ _ _ kb,by simpa using kz,own_mono (by simp) (ownsRow_setCell_below I (by simp) _),(Qab.set H (by simp)).mono (by simp),fun k v hk=>(World.cell?_setCell_other _ _ _ _ (by intro e;simp at e)).trans (N k v hk),D.setCell (by show w.heap.size<=w.heap.size+1;omega) _⟩
  case rest=>
   obtain⟨ab,us,rfl,aN,aF,hv,hH,hJ,K⟩:=hcut;have aO:=K.size;have j1:wc.cell? ⟨w.heap.size,1,none⟩=some (.int .i64 5):=by have:=hJ 1 (.int .i64 j.code) rfl;rw[aE.out] at this;exact this
   have m3:=cK K M t3;have aQ:=hJ.lt;have V:=Hk (Ai K (Ai hv hH));obtain⟨xa,xc,rfl⟩:=own_slice hv;clear K hv hH hJ ai F t0 t1 t3;go_wp2_with (first|(go_at_call 137;refine(aA.out _ V.out.1).mono ?_;rintro e J ⟨v1,ae,rfl,I,H,h⟩;obtain⟨aV,aT,rfl⟩:=own_slice I)|(go_at_call 145;refine(QkD J.heap.size rs.length y.length _ _ us ae _ _ _ (by simp) (by simp) (by simp) ((owns_below V.out.2.1 h).alloc _) (I.alloc _) ad U (Qn5 V.out.2.2 H)).mono ?_;rintro e w2 ⟨v2,rfl,aD,Z⟩))
   go_ret3
   have aS:=h.size;refine⟨_,us++ae,rfl,?_,?_,bel_then (bel_box (bel_then V.out.1 h) _) Z⟩
   ·rw[List.length_append];exact own_mono (by simp;omega) aD
   ·have g1:=((V.out.2.2.below h).below (Qaa _ _)).below Z;have g2:=(H.below (Qaa _ _)).below Z;exact(g1.mono (by omega)).append (g2.mono (by omega))
noncomputable def QdN (t u:Tb):Int:=by classical exact if Qae t.1 t.2=false\/Qae u.1 u.2=false then 1 else if t.1≠u.1 then 13 else if 60<t.2.length+u.2.length then 12 else 0
theorem Ql0 {t u:Tb} (h:QdN t u=0):Qae t.1 t.2=true/\Qae u.1 u.2=true/\t.1=u.1/\t.2.length+u.2.length<=60:=by
 unfold QdN at h;split at h
 ·cases h
 ·rename_i y
  split at h
  ·cases h
  ·rename_i D
   split at h
   ·cases h
   ·rename_i E
    refine⟨?_,?_,by simpa using D,by omega⟩
    ·cases g:Qae t.1 t.2 with
     |true=>rfl
     |false=>exact absurd (Or.inl g) y
    ·cases g:Qae u.1 u.2 with
     |true=>rfl
     |false=>exact absurd (Or.inr g) y
theorem heads_of {W:World} {B g N:Nat} {us:List Value} {cs h:List Cl} (E:W.ownsRow B 51 1 (.slice (some ⟨g,0,none⟩) 2 N) 2 us) (K:QaE W us [cs,h]) (Z:1<=cs.length) (O:1<=h.length):
 ∃b o c y D F,W.cell? ⟨g,0,none⟩=some (.slice (some ⟨b,o,none⟩) cs.length c)/\W.cell? ⟨g,0+1,none⟩=some (.slice (some ⟨y,D,none⟩) h.length F)/\g<W.heap.size/\b<W.heap.size/\y<W.heap.size/\Qau W b o cs/\Qau W y D h:=by
 obtain⟨u,hu,hc⟩:=K.2 0 (by simp);obtain⟨u',U,M⟩:=K.2 1 (by simp);obtain⟨b,o,c,rfl,J,V⟩:=QbI hc Z;obtain⟨y,D,F,rfl,H,I⟩:=QbI M O;exact⟨b,o,c,y,D,F,QcC E 0 _ (by decide) hu,QcC E 1 _ (by decide) U,(E.lt g rfl).2,J,H,V,I⟩
theorem QcH {t u:Tb} (h:Qae t.1 t.2=true) (D:Qae u.1 u.2=true):∀x∈[t,u],Qae x.1 x.2=true:=by
 intro x y;simp at y;rcases y with rfl|rfl
 ·exact h
 ·exact D
theorem Qjw {t u:Tb} {j:Jb} {w:World} (Z:Option Addr) (O:Nat) (y:j.code=5) (J:j.outs=.slice Z 1 O) (hr:Qae t.1 t.2=true) (N:Qae u.1 u.2=true) (he:t.1=u.1):
 ∀W B g h us,Below w.heap.size w W->W.ownsRow B 51 1 (.slice (some ⟨g,0,none⟩) [t,u].length h) [t,u].length us->QaE W us ([t,u].map (·.1))->Calls Tryz.prog 59 #[.agg j.cells,.slice (some ⟨g,0,none⟩) [t,u].length h] W fun e w'=>∃v us,e=.returned (.tuple #[v,.nilIface])/\w'.ownsRow W.heap.size 51 1 v 1 us/\Qbk w' W.heap.size us t.1/\Below W.heap.size W w':=by
 obtain⟨V,ai,aj,ah⟩:=Qan hr;obtain⟨M,am,ak,al⟩:=Qan N;have U:Qa3 j.code=(((2:Nat):Int),((1:Nat):Int)):=by rw[y];rfl
 intro W B g h us hW ho hh;obtain⟨b,o,c,b',o',c',H,aa,D,E,F,I,K⟩:=heads_of ho hh V M;refine cols_ok _ Z h O j 2 1 t.1 W J U (by decide) (by decide) (fun W' hW'=>?_) (fun W' hW'=>QbF g 0 2 h b o t.1.length c t.1 j W' (Or.inr (Or.inr (Or.inr (Or.inr (Or.inl y))))) (by decide) (Nat.lt_of_lt_of_le D hW'.size) (cK hW' D H) rfl (by omega) (Nat.lt_of_lt_of_le E hW'.size) (I.below hW' E));have:=QdM g 0 h b o c b' o' c' t.1 u.1 j W' y (Nat.lt_of_lt_of_le D hW'.size) (cK hW' D H) (cK hW' D aa) (by omega) (by omega) (Nat.lt_of_lt_of_le E hW'.size) (Nat.lt_of_lt_of_le F hW'.size) (I.below hW' E) (K.below hW' F);rw[show QdF t.1 u.1=0 by unfold QdF;rw[if_pos he]] at this;exact this
theorem Qjx {tb tcap:Nat} {t u:Tb} {j:Jb} {w:World} (F:j.code=5) (M:QaZ w tb 0 [t,u]) (D:tb<w.heap.size) (hr:Qae t.1 t.2=true) (K:Qae u.1 u.2=true) (he:t.1=u.1):
 ∀W,Below w.heap.size w W->Calls Tryz.prog 102 #[.agg j.cells,.slice (some ⟨tb,0,none⟩) [t,u].length tcap] W fun e w'=>∃E v2 y us2,e=.returned (.tuple #[E,v2,.nilIface])/\w'.ownsRow W.heap.size 84 1 E (t.2++u.2).length y/\Qab w' W.heap.size y (t.2++u.2)/\w'.ownsRow W.heap.size 84 1 v2 ([]:List (List Vl)).length us2/\Qab w' W.heap.size us2 []/\Below W.heap.size W w':=by
 obtain⟨U,ah,al,I⟩:=Qan hr;obtain⟨ag,ak,am,J⟩:=Qan K;intro W h;obtain⟨vc,vr,c0,c1,hc,N⟩:=M 0 (by simp);obtain⟨aj,O,c2,c3,ai,H⟩:=M 1 (by simp);refine(QhO tb tcap vc vr O t.1 t.2 u.2 j W F (Nat.lt_of_lt_of_le D h.size) ((h.cell (p:=⟨tb,0,none⟩) D).trans (by simpa using c0)) ((h.cell (p:=⟨tb,1,none⟩) D).trans (by simpa using c1)) ((h.cell (p:=⟨tb,3,none⟩) D).trans (by simpa using c3)) (hc.below h) (N.below h) (H.below h) (by rw[he];exact J) (by omega) U (by omega) I (by omega)).mono ?_;rintro e w' ⟨E,y,h1,V,h3,Z⟩;exact⟨E,.slice none 0 0,y,[],h1,V,h3,World.ownsRow_nil _ _ _ _,Qab.nil _ _,Z⟩
theorem QkE (tb tcap:Nat) (t u:Tb) (j:Jb) (O:Option Addr) (N:Nat) (w:World) (y:j.code=5) (F:j.outs=.slice O 1 N) (J:QaZ w tb 0 [t,u]) (D:tb<w.heap.size) (V:QdN t u≠0):
 Calls Tryz.prog 61 #[.agg j.cells,.slice (some ⟨tb,0,none⟩) 2 tcap] w fun e w'=>e=.returned (.tuple #[.slice none 0 0,QbN (QdN t u)])/\Below w.heap.size w w':=by
 have ac:Qa3 j.code=(((2:Nat):Int),((1:Nat):Int)):=by rw[y];rfl
 by_cases h1:Qae t.1 t.2=false\/Qae u.1 u.2=false
 ·rw[show QdN t u=1 by unfold QdN;rw[if_pos h1]];refine QhI tb 0 tcap [t,u] j w J D (by simp) ?_;rcases h1 with h|h
  ·exact⟨t,by simp,h⟩
  ·exact⟨u,by simp,h⟩
 ·have E:Qae t.1 t.2=true:=by
   cases g:Qae t.1 t.2 with
   |true=>rfl
   |false=>exact absurd (Or.inl g) h1
  have hr':Qae u.1 u.2=true:=by
   cases g:Qae u.1 u.2 with
   |true=>rfl
   |false=>exact absurd (Or.inr g) h1
  obtain⟨ad,al,ao,ak⟩:=Qan E;obtain⟨Z,am,ap,aq⟩:=Qan hr'
  by_cases he:t.1=u.1
  ·by_cases hf:60<t.2.length+u.2.length
   ·rw[show QdN t u=12 by unfold QdN;rw[if_neg h1,if_neg (by simpa using he),if_pos hf]];exact QlQ tb 0 tcap [t,u] j w J D (by simp) (by simp) (QcH E hr') t.1 1 (t.2++u.2) [] (by simpa using hf) (Qjw O N y F E hr' he) (Qjx y J D E hr' he)
   ·exfalso;apply V;unfold QdN;rw[if_neg h1,if_neg (by simpa using he),if_neg hf]
  ·rw[show QdN t u=13 by unfold QdN;rw[if_neg h1,if_pos he]];refine QhJ tb 0 tcap [t,u] j w J D (by simp) (by simp) (QcH E hr') 13 (by decide) ?_;intro W B g M us hW ho hh;obtain⟨b,o,c,b',o',c',aa,ae,I,K,H,ab,U⟩:=heads_of ho hh ad Z;refine Qdq _ O M N j 2 1 13 W F ac (by decide) (by decide) (fun W' hW'=>?_);have:=QdM g 0 M b o c b' o' c' t.1 u.1 j W' y (Nat.lt_of_lt_of_le I hW'.size) (cK hW' I aa) (cK hW' I ae) (by omega) (by omega) (Nat.lt_of_lt_of_le K hW'.size) (Nat.lt_of_lt_of_le H hW'.size) (ab.below hW' K) (U.below hW' H);rw[show QdF t.1 u.1=13 by unfold QdF;rw[if_neg he]] at this;exact this
theorem Ql1 (tb tcap:Nat) (t u:Tb) (j:Jb) (J:Option Addr) (K:Nat) (w:World) (h:j.code=5) (E:j.outs=.slice J 1 K) (H:QaZ w tb 0 [t,u]) (D:tb<w.heap.size) (I:QdN t u=0):
 Calls Tryz.prog 61 #[.agg j.cells,.slice (some ⟨tb,0,none⟩) 2 tcap] w fun e w'=>∃g c,e=.returned (.tuple #[.slice (some ⟨g,0,none⟩) 1 c,.nilIface])/\w.heap.size<=g/\g<w'.heap.size/\QbR w' w.heap.size g [(t.1,t.2++u.2)]/\Below w.heap.size w w':=by
 obtain⟨F,y,he,M⟩:=Ql0 I;obtain⟨U,V,c0,c1,N,O⟩:=H 0 (by simp);exact Qd0 tb 0 tcap [t,u] j w H D (by simp) (by simp) (QcH F y) t.1 (t.2++u.2) [] (by simpa using M) (Qbp N) (Qjw J K h E F y he) (Qjx h H D F y he)
theorem Jb.size (j:Jb):j.cells.size=15:=rfl
theorem QaC.put {w:World} {N:Nat} {j D:Jb} (h:QaC w N j) (k:Nat) (x:Value) (E:k<15) (he:D.cells=j.cells.set! k x):QaC (w.setCell ⟨N,k,none⟩ x) N D:=by
 intro q v y;rw[he,Array.set!_eq_setIfInBounds,Array.getElem?_setIfInBounds] at y
 by_cases e:k=q
 ·subst e;rw[if_pos rfl,if_pos (by rw[Jb.size];exact E)] at y;injection y with y;subst y;have F:=h k (j.cells[k]'(by rw[Jb.size];exact E)) (Array.getElem?_eq_getElem _);exact World.cell?_setCell_same _ _ _ F
 ·rw[if_neg e] at y;exact(World.cell?_setCell_other _ _ _ _ (by intro H;simp at H;try omega)).trans (h q v y)
def Qdf (w:World) (N:Nat):Prop:=∀k,w.frozen? ⟨N,k,none⟩=false
theorem Qdf.below {w w':World} {N B:Nat} (h:Qdf w N) (D:Below B w w') (y:N<B):Qdf w' N:=fun k=>(D.frozen (p:=⟨N,k,none⟩) y).trans (h k)
theorem Qdf.put {w:World} {N M k:Nat} {x:Value} (h:Qdf w N):Qdf (w.setCell ⟨M,k,none⟩ x) N:=fun q=>by rw[World.frozen?_setCell];exact h q
theorem Qdf.new (w:World) (o:Obj) (cs:Array Value) (t:TypeId) (h:o=.cells cs t):Qdf (w.alloc o) w.heap.size:=fun k=>by subst h;simp
def TabIs (w:World) (b:Nat) (cs:List Cl) (rs:List (List Vl)):Prop:=∃x y,w.cell? ⟨b,0,none⟩=some x/\w.cell? ⟨b,1,none⟩=some y/\b<w.heap.size/\Qax w x cs/\QaG w y rs
theorem TabIs.below {w w':World} {b:Nat} {cs:List Cl} {rs:List (List Vl)} (h:TabIs w b cs rs) (D:Below w.heap.size w w'):TabIs w' b cs rs:=by
 obtain⟨x,y,I,H,E,J,F⟩:=h;exact⟨x,y,cK D E I,cK D E H,Nat.lt_of_lt_of_le E D.size,J.below D,F.below D⟩
theorem QkF {cs:List Cl} {nm:List UInt8} {i:Nat} (h:Qaq cs nm=some i):(cs[i]'(Qap h)).1.data.toList=nm:=by
 have:=(List.findIdx?_eq_some_iff_getElem.1 h).2.1;simpa using this
theorem QiY {r:List Vl} {cs:List Cl} (h:QaO r cs=true) (i:Nat) (D:i<r.length) (y:i<cs.length):r[i].1=cs[i].2/\rvB r[i]=true:=by
 induction r generalizing cs i with
 |nil=>simp at D
 |cons a r ih=>
  cases cs with
  |nil=>simp at y
  |cons c cs=>
   simp only[QaO,Bool.and_eq_true,beq_iff_eq] at h
   cases i with
   |zero=>exact⟨by simpa using h.1,by simpa using h.2.1⟩
   |succ i=>
    simp only[List.getElem_cons_succ];exact ih h.2.2 i (by simpa using D) (by simpa using y)
theorem Ql2 {α:Type} (l:List α) (f:α->Vl) (g:α->Cl) (h:∀k∈l,(f k).1=(g k).2/\rvB (f k)=true):QaO (l.map f) (l.map g)=true:=by
 induction l with
 |nil=>rfl
 |cons a l ih=>
  simp only[List.map_cons,QaO,Bool.and_eq_true,beq_iff_eq];exact⟨(h a (by simp)).1,(h a (by simp)).2,ih fun k hk=>h k (by simp[hk])⟩
theorem QfC (cs:List Cl) (F:∀c∈cs,Qfh c.1.data.toList=true/\Qhy c.2=true):∀(I y:List ByteArray) (D:List Cl),(∀nm,Qbl D nm=inS y nm)->QhL cs y I=0->Qcz D (Qbd (Qak cs I) cs)=true
 |[],_,_,_,_=>rfl
 |s::r,y,D,hseen,h=>by
  rw[QhL] at h;split at h
  ·cases h
  ·rename_i N
   split at h
   ·cases h
   ·rename_i M
    cases g:Qaq cs s.data.toList with
    |none=>exact absurd g N
    |some k=>
     have H:=Qap g;have E:=QkF g;have K:Qbd (Qak cs (s::r)) cs=cs[k]::Qbd (Qak cs r) cs:=by simp[Qbd,Qak,g,List.getElem?_eq_getElem H]
     rw[K];have J:=F _ (List.getElem_mem H);simp only[Qcz,Bool.and_eq_true];refine⟨J.1,J.2,?_,QfC cs F r (y++[s]) (D++[cs[k]]) (fun nm=>?_) h⟩
     ·rw[hseen,E];simpa using M
     ·have:=hseen nm;simp only[Qbl,inS,List.any_append,List.any_cons,List.any_nil,Bool.or_false] at this⊢;rw[this,E]
theorem Qgx {cs:List Cl} {rs:List (List Vl)} {h:List ByteArray} (K:Qae cs rs=true) (D:QaR cs h=0):Qae (Qbd (Qak cs h) cs) (rs.map (QbS (Qak cs h)))=true:=by
 obtain⟨Z,l6,H⟩:=QcF D;obtain⟨J,U,h3⟩:=QaI K;obtain⟨r1,r2,r3,V⟩:=Qan K;have I:=QcG H;have M:=QbQ cs [] (by simp[Qaj] at J;exact J.2.2);have O:QhL cs [] h=0:=by unfold QaR at D;rw[if_neg (by omega)] at D;exact D
 have F:(Qbd (Qak cs h) cs).length=h.length:=by simp[Qbd,Qak]
 unfold Qae Qaj;rw[QfC cs M h [] [] (fun nm=>rfl) O,F];simp only[List.length_map,Bool.and_eq_true,decide_eq_true_eq,List.all_eq_true];refine⟨⟨Z,l6,trivial⟩,U,fun q hq=>?_⟩;obtain⟨r,N,rfl⟩:=List.mem_map.1 hq;refine Ql2 _ _ _ fun k hk=>?_
 have y:=I k hk;have E:k<r.length:=by rw[V r N];exact y
 rw[List.getElem?_eq_getElem E,List.getElem?_eq_getElem y];exact QiY (h3 r N) k E y
theorem Qdg {cs:List Cl} {rs:List (List Vl)} (E:Qae cs rs=true) (p:List Vl->Bool):Qae cs (rs.filter p)=true:=by
 obtain⟨h,y,D⟩:=QaI E;unfold Qae;rw[h];simp only[Bool.true_and,Bool.and_eq_true,decide_eq_true_eq,List.all_eq_true];exact⟨Nat.le_trans (List.length_filter_le _ _) y,fun r hm=>D r (List.mem_filter.1 hm).1⟩
def Jb.filt (j:Jb):Jb:={j with code:=1,cols:=.slice none 0 0}
def Qrm (v:Value):Jb:=⟨0,3,.slice none 0 0,.slice none 0 0,v,⟨#[]⟩,(⟨#[]⟩,0,0,⟨#[]⟩),(⟨#[]⟩,0,0,⟨#[]⟩),0⟩
theorem QhP {cs:List Cl} {rs D:List (List Vl)} (h:Qae cs rs=true) (E:Qae cs D=true) (H:rs.length+D.length<=60):Qae cs (rs++D)=true:=by
 obtain⟨F,M,I⟩:=QaI h;obtain⟨K,N,J⟩:=QaI E;unfold Qae;rw[F];simp only[Bool.true_and,Bool.and_eq_true,decide_eq_true_eq,List.all_eq_true,List.length_append];refine⟨H,fun r y=>?_⟩;rcases List.mem_append.1 y with y|y
 ·exact I r y
 ·exact J r y
def Stt (w W:World) (b9:Nat) (j:Jb) (cv vc vr vc2 vr2:Value):Prop:=QaC W w.heap.size j.filt/\QaC W b9 (Qrm cv)/\W.cell? ⟨w.heap.size+1,0,none⟩=some vc/\W.cell? ⟨w.heap.size+1,1,none⟩=some vr/\W.cell? ⟨w.heap.size+1+1,0,none⟩=some vc2/\W.cell? ⟨w.heap.size+1+1,1,none⟩=some vr2/\w.heap.size+1+1<W.heap.size/\b9<W.heap.size/\Below w.heap.size w W
theorem Stt.below {w W M:World} {K:Nat} {j:Jb} {J F I E D:Value} (h:Stt w W K j J F I E D) (y:Below W.heap.size W M):Stt w M K j J F I E D:=by
 obtain⟨U,O,c0,c1,c2,c3,H,N,V⟩:=h;have Z:=y.size;exact⟨U.below y (by omega),O.below y N,cK y (by omega) c0,cK y (by omega) c1,cK y H c2,cK y H c3,by omega,by omega,bel_then V y⟩
end Go.Proofs.YtjlgejennghhlaaGreatDoor
