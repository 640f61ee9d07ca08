import Derived.Lib.AppendZeros
import Derived.Laws.AppendOwnNone
import Derived.Test.YtjlgejennghhlaaGreatDoorQ01
import Derived.Test.YtjlgejennghhlaaGreatDoorQ20
set_option linter.unusedSimpArgs false
set_option linter.unusedVariables false
set_option linter.unusedSectionVars false
set_option maxRecDepth 1000000
set_option maxHeartbeats 16000000
namespace Go.Proofs.YtjlgejennghhlaaGreatDoor
open Go.RowKit
theorem QiK (tb H tk tcap:Nat) (vc vr:Value) (cs:List Cl) (rs:List (List Vl)) (j:Jb) (w:World) (D:List ByteArray) (I:j.code=3) (hs:Qcl w j.cols D) (he:QaQ cs D=0) (bi:0<tk) (Z:tb<w.heap.size) (t0:w.cell? ⟨tb,H,none⟩=some vc) (t1:w.cell? ⟨tb,H+1,none⟩=some vr)
 (hc:Qax w vc cs) (hr:QaG w vr rs) (N:1<=cs.length) (h6:cs.length<=100) (hl:∀r∈rs,r.length=cs.length) (ao:rs.length<=100):
 Calls Tryz.prog 102 #[.agg j.cells,.slice (some ⟨tb,H,none⟩) tk tcap] w fun e w'=>∃v1 us1,e=.returned (.tuple #[v1,.slice none 0 0,.nilIface])/\w'.ownsRow w.heap.size 84 1 v1 rs.length us1/\Qab w' w.heap.size us1 (rs.map (QbQ (Qaj cs D)))/\Below w.heap.size w w':=by
 have bj:=mkF;have aq:=Hk (fun W (hW:Below w.heap.size w W)=>Qa0 vr rs cs.length W (hr.below hW) hl N h6 ao);obtain⟨l0,l6,K⟩:=QcB he;obtain⟨ca,cc,hj,ax,aR,U⟩:=hs;rcases U with h|⟨nb,no,rfl,aY,U⟩
 ·rw[h] at l0;simp at l0
 obtain⟨cb,co,M,aM,aA,ae⟩:=QbF hc N;have av:(Qaj cs D).length=D.length:=by simp[Qaj]
 have ar:=fun W (N:Below w.heap.size w W)=>QdV nb no cc cb co cs.length M D.length D (Qaj cs D) cs W rfl (by omega) (by have:=N.size;omega) (U.below N aY) rfl h6 (by have:=N.size;omega) (ae.below N aA) av (QdX K)
 have aj:=fun(v:Value) W g gc (hv:QaG W v rs) (hg:g<W.heap.size) (hi:QcA W g 0 (Qaj cs D))=>QgQ v rs g 0 gc (Qaj cs D) W hv (fun r hr'=>⟨fun k hk=>by have:=QcC K k hk;have:=hl r hr';omega,by have:=hl r hr';omega⟩) (by omega) hg hi (by omega) ao
 have ap:0<(Qaj cs D).length:=by omega
 generalize aX:Qaj cs D=ks at*;have aQ:=Hk ar;have aF:=Hk aj;have HK:=Hk ap;clear ar aj av K l0 l6 he aX ap U ax aR;have htk':(0:Int)<(tk:Int):=by omega
 clear hl;subst aM;clear hc ae;obtain⟨ra,aH,rfl,-⟩:=hr;have al:QaC (w.alloc (.cells j.cells 50)) w.heap.size j:=fun k v hk=>by rw[World.cell?_alloc_at _ _ _ _ rfl];exact hk
 have J:=Hk al;clear al;unfold Jb.cells at J⊢;rw[I,hj] at J⊢;have au:=Hk (Ai I hj);clear I hj
 all_goals
  go_enter Tryz.func102,Tryz.ntmps102;go_wp2_with fail
  go_cut [7,8] (fun p v wx=>∃(ab:Nat) (us:List Value),p=.pointer (some ⟨ab,0,none⟩)/\wx.cell? ⟨ab,0,none⟩=some (.slice (some ⟨cb,co,none⟩) cs.length M)/\ab<wx.heap.size/\wx.ownsRow (w.heap.size+1) 84 1 v rs.length us/\Qab wx (w.heap.size+1) us rs/\QaC wx w.heap.size j/\Below w.heap.size w wx)
  case first=>
   go_region_held3 (fun w'=>w'.cell? ⟨tb,H,none⟩=some (.slice (some ⟨cb,co,none⟩) cs.length M)/\w'.cell? ⟨tb,H+1,none⟩=some (.slice ra rs.length aH))
    (first|(go_keep;done)|exact⟨(World.cell?_setCell_other _ _ _ _ (by intro e;simp at e;try omega)).trans k0,(World.cell?_setCell_other _ _ _ _ (by intro e;simp at e;try omega)).trans k1⟩)
    (first|(go_at_call 137;refine(aq.out _ (by first|exact(Qaa _ _).drew|exact(bel_box (Qaa _ _) _).drew)).mono ?_;rintro e V ⟨v1,us,rfl,O,ak,y⟩;have F:=bel_then (show Below w.heap.size w _ from(by first|exact(Qaa _ _).drew|exact(bel_box (Qaa _ _) _).drew)) y;have k0:=cK F Z t0;have k1:=cK F Z t1;have bk:tb<V.heap.size:=Nat.lt_of_lt_of_le Z F.size;(try(have kb:=(y.cell (p:=⟨w.heap.size+1,0,none⟩) (by simp)).trans (show _=some (Value.slice none 0 0) by simp);have kf:=(y.frozen (p:=⟨w.heap.size+1,0,none⟩) (by simp)).trans (show _=false by simp);have kz:w.heap.size+1<V.heap.size:=by(have:=y.size;simp at this;omega)))))
   all_goals go_wp2_with fail
   all_goals go_meet
   ·have ad:QaC V w.heap.size j:=fun k v hk=>(y.cell (p:=⟨w.heap.size,k,none⟩) (by simp)).trans (by simpa using J.out k v hk)
    exact⟨V.heap.size,us,rfl,by simp,by simp,(own_mono (by simp) O).alloc _,(ak.mono (by simp)).below (Qaa _ _),ad.below (Qaa _ _) (by have:=y.size;simp at this;omega),bel_box F _⟩
   ·have ad:QaC V w.heap.size j:=fun k v hk=>(y.cell (p:=⟨w.heap.size,k,none⟩) (by simp;omega)).trans (by simpa using J.out k v hk)
    exact⟨w.heap.size+1,us,rfl,World.cell?_setCell_same _ _ _ kb,by simpa using kz,own_mono (by simp) (ownsRow_setCell_below O (by simp) _),(Qab.set ak (by simp)).mono (by simp),fun k v hk=>(World.cell?_setCell_other _ _ _ _ (by intro e;simp at e)).trans (ad k v hk),F.setCell (by show w.heap.size<=w.heap.size+1;omega) _⟩
  case rest=>
   obtain⟨ab,us,rfl,bh,a7,hv,hH,hJ,aa⟩:=hcut;have bf:=aa.size;have j1:wc.cell? ⟨w.heap.size,1,none⟩=some (.int .i64 3):=by have:=hJ 1 (.int .i64 j.code) rfl;rw[au.out.1] at this;exact this
   have j4:wc.cell? ⟨w.heap.size,4,none⟩=some (.slice (some ⟨nb,no,none⟩) D.length cc):=by have:=hJ 4 j.cols rfl;rw[au.out.2] at this;exact this
   have be:=hJ.lt;have am:=QbT hv hH;have HB:=Hk (Ai aa am);obtain⟨xa,xc,rfl⟩:=own_slice hv;clear aa hv hH hJ am aq J t0 t1;go_wp2_with (first|(go_at_call 131;refine(aQ.out _ HB.out.1).mono ?_;rintro e V ⟨v1,rfl,O,y⟩;obtain⟨g,gc,rfl,bm,aK,aN⟩:=QdG O HK.out)|(go_at_call 143;refine(aF.out _ _ _ _ (HB.out.2.below y) aK aN).mono ?_;rintro e w2 ⟨v2,aU,rfl,aT,aV,aS⟩))
   go_ret3
   have bg:=y.size;exact⟨_,aU,rfl,own_mono (by omega) aT,aV.mono (by omega),bel_then (bel_then HB.out.1 y) aS⟩
def Qgt (t:Tb) (ss:List ByteArray):Int:=if Qae t.1 t.2=false then 1 else QaQ t.1 ss
theorem Qjh {t:Tb} {y:List ByteArray} (h:Qgt t y=0):Qae t.1 t.2=true/\QaQ t.1 y=0:=by
 unfold Qgt at h;split at h
 ·cases h
 ·rename_i D;exact⟨by simpa using D,h⟩
theorem Qkp {D:List Nat} {cs:List Cl} (h:∀x∈cs,x.1.size<=maxLen):∀x∈Qbc D cs,x.1.size<=maxLen:=by
 intro x y;obtain⟨k,-,rfl⟩:=List.mem_map.1 y
 by_cases hk:k<cs.length
 ·simp only[List.getElem?_eq_getElem hk,Option.getD_some];exact h _ (List.getElem_mem hk)
 ·rw[List.getElem?_eq_none (by omega)];exact Nat.zero_le _
theorem Qkq (tb D tcap:Nat) (t:Tb) (j:Jb) (oa:Option Addr) (oc:Nat) (y:List ByteArray) (w:World) (h:j.code=3) (Z:j.outs=.slice oa 1 oc) (V:Qcl w j.cols y) (ht:QaX w tb D [t]) (J:tb<w.heap.size) (aa:Qgt t y=0):
 Calls Tryz.prog 61 #[.agg j.cells,.slice (some ⟨tb,D,none⟩) 1 tcap] w fun e w'=>∃g c,e=.returned (.tuple #[.slice (some ⟨g,0,none⟩) 1 c,.nilIface])/\w.heap.size<=g/\g<w'.heap.size/\QbP w' w.heap.size g [(Qbc (Qaj t.1 y) t.1,t.2.map (QbQ (Qaj t.1 y)))]/\Below w.heap.size w w':=by
 have ag:Qa1 j.code=(((1:Nat):Int),((1:Nat):Int)):=by rw[h];rfl
 obtain⟨hr,he⟩:=Qjh aa;obtain⟨U,ax,ah,ab⟩:=Qam hr;obtain⟨vc,vr,c0,c1,hc,ae⟩:=ht 0 (by simp);refine QdU tb D tcap [t] j w ht J (by simp) (by simp) (by intro x M;simp at M;rw[M];exact hr) (Qbc (Qaj t.1 y) t.1) (t.2.map (QbQ (Qaj t.1 y))) [] (by simpa using ah) (Qkp (Qbo hc)) ?_ (fun W F=>?_)
 ·intro W B g K us F ho hh;obtain⟨b,o,c,N,I,H,O⟩:=Qcq ho hh U;refine cols_ok _ oa K oc j 1 1 (Qbc (Qaj t.1 y) t.1) W Z ag (by decide) (by decide) (fun W' hW'=>?_) (fun W' hW'=>QeK g 0 1 K b o t.1.length c t.1 y j W' h (by decide) (Nat.lt_of_lt_of_le I hW'.size) (cK hW' I N) ((V.below F).below hW') he rfl (by omega) (Nat.lt_of_lt_of_le H hW'.size) (O.below hW' H));have:=Qgs g 0 1 K b o t.1.length c t.1 y j W' h (by decide) (Nat.lt_of_lt_of_le I hW'.size) (cK hW' I N) ((V.below F).below hW') rfl (by omega) (Nat.lt_of_lt_of_le H hW'.size) (O.below hW' H);rw[he] at this;exact this
 ·refine(QiK tb D 1 tcap vc vr t.1 t.2 j W y h (V.below F) he (by decide) (Nat.lt_of_lt_of_le J F.size) ((F.cell (p:=⟨tb,D,none⟩) J).trans (by simpa using c0)) ((F.cell (p:=⟨tb,D+1,none⟩) J).trans (by simpa using c1)) (hc.below F) (ae.below F) U (by omega) ab (by omega)).mono ?_;rintro e w' ⟨v1,aj,h1,h2,h3,hb⟩;exact⟨v1,.slice none 0 0,aj,[],h1,by simpa using h2,h3,World.ownsRow_nil _ _ _ _,Qab.nil _ _,hb⟩
theorem QnV (n:Nat) (w:World) (Z:n<=1000):
 Calls Tryz.prog 176 #[.slice none 0 0,.int .i64 n] w fun e w'=>∃v,e=.returned v/\w'.ownsRow w.heap.size 84 1 v 0 []/\Below w.heap.size w w':=by
 obtain⟨K,N,H,I,D⟩:=info_parts Tryz.infoRow
 by_cases h0:n=0
 ·subst h0;go_enter Tryz.func176,Tryz.ntmps176;go_wp2;go_ret;exact⟨_,rfl,World.ownsRow_nil _ _ _ _,Below.refl _ _⟩
 ·have F:∀ty,(Builtin.append_ #[52,3] ty #[.slice none 0 0,.int .i64 n]).run Tryz.prog w=_:=fun ty=>Lib.run_append_nil_zeros w 52 3 ty 84 K (.slice none 0 0) .i64 .i64 Tryz.underlying52 Tryz.underlying3 N H n (by omega) (by rw[I];decide) (by omega) (by rw[D];omega)
  have y:=grownCap_ge w n 0 84;have h:=grownCap_le_maxLen w n 0 84 (by unfold maxLen;omega);obtain⟨G,J⟩:∃G,G=grownCap w n 0 84:=⟨_,rfl⟩;rw[<-J] at F y h;have hle':(G:Int)<=9223372036854775807:=by unfold maxLen at h;omega
  have O:¬((n:Int)<0):=by omega
  have U:(0:Int)<(n:Int):=by omega
  have M:=Hk (fun(W:World) (V:W.heap.size=w.heap.size)=>World.ownsRow_made (base:=w.heap.size) (e:=84) (size:=1) W (Builtin.zeroCells (Value.slice none 0 0).cells n++Builtin.zeroCells (Value.slice none 0 0).cells (G-n)) G (by omega) h (by rw[Array.size_append,size_zeroCells,size_zeroCells];simp[Value.cells];omega));clear J;go_enter Tryz.func176,Tryz.ntmps176;go_wp2_with (at_builtin;refine Lib.wpList_append_run _ rfl _ _ _ _ rfl _ _ rfl rfl _ _ (F _) ?_);go_ret;exact⟨_,rfl,M.out w.drew rfl,bel_box (Below.refl _ _).drew _⟩
theorem QhH {w:World} {B:Nat} {v:Value} {n:Nat} {us:List Value} (h:w.ownsRow B 84 1 v n us):v=.slice none 0 0/\n=0/\us=[]\/∃g c,v=.slice (some ⟨g,0,none⟩) n c/\g<w.heap.size/\∀j u,us[j]? =some u->w.cell? ((⟨g,0,none⟩:Addr).add j)=some u:=by
 have h':=h;obtain⟨J,⟨rfl,D⟩|⟨g,y,F,rfl,M,K,D,I,_,_⟩⟩:=h
 ·refine Or.inl ⟨rfl,D,List.length_eq_zero_iff.1 (by omega)⟩
 ·refine Or.inr ⟨g,y,rfl,(h'.lt g rfl).2,fun j u hj=>?_⟩;have H:j<us.length:=(List.getElem?_eq_some_iff.1 hj).1;have e:=h'.cellAt j (by omega);rw[Addr.add_mid,Nat.zero_add,e,hj]
theorem Qkr (lb H O:Nat) (v1 v2:Value) (N U:List Value) (B1 B2:Nat) (w:World) (aw:lb<w.heap.size) (c0:w.cell? ⟨lb,0,none⟩=some v1) (c1:w.cell? ⟨lb,1,none⟩=some v2) (h1:w.ownsRow B1 84 1 v1 H N) (h2:w.ownsRow B2 84 1 v2 O U) (aQ:H<=100) (aR:O<=100) (ho:∀u∈N++U,u.oneCell'=true):
 Calls Tryz.prog 145 #[.slice (some ⟨lb,0,none⟩) 2 2] w fun e w'=>∃v,e=.returned v/\w'.ownsRow w.heap.size 84 1 v (H+O) (N++U)/\Below w.heap.size w w':=by
 obtain⟨i0,hi,al,ap,aq⟩:=info_parts Tryz.infoRow;have HG:=Hk (QnV (H+O) w (by omega));have HW:=Hk (Ai h1 (Ai h2 ho));have au:N.length=H:=by have:=h1.1;omega
 have ao:U.length=O:=by have:=h2.1;omega
 have HL:=Hk (Ai au ao);have aJ:wrap64 ((H:Int)+(O:Int))=((H+O:Nat):Int):=by unfold wrap64;omega
 obtain⟨a1,k1,rfl⟩:=own_slice h1;obtain⟨a2,k2,rfl⟩:=own_slice h2;clear h1 h2 ho au ao;go_enter Tryz.func145,Tryz.ntmps145;go_wp2;go_loopw [3,11] (fun s i wr=>wr=w/\∃k:Nat,k<=2/\i=.int .i64 k/\s=.int .i64 ((if k=0 then 0 else if k=1 then H else H+O:Nat):Int)) (fun _ i _=>2-(intOf i).toNat)
 case atStart=>exact⟨rfl,0,by omega,rfl,rfl⟩
 case round=>
  obtain⟨am,k,hk,rfl,rfl⟩:=hrel;have hww':=am.symm;subst hww';clear am;have ad:k=0\/k=1\/k=2:=by omega
  rcases ad with rfl|rfl|rfl
  ·have ax:¬((H:Int)<0):=by omega
   go_wp2
   all_goals go_roundw
   case rel=>exact⟨by first|trivial|rfl,1,by omega,by go_num,by simp⟩
   case measure=>simp[intOf]
  ·have ax:¬(((H+O:Nat):Int)<0):=by omega
   go_wp2
   all_goals go_roundw
   case rel=>exact⟨by first|trivial|rfl,2,by omega,by go_num,by simp⟩
   case measure=>simp[intOf]
  ·go_wp2_with (go_at_call 176;refine HG.out.mono ?_;rintro e w1 ⟨v,rfl,ar,av⟩);have HS:=Hk (Ai ar av);clear ar av HG;go_loopw [6,27] (fun l i wr=>∃k:Nat,k<=2/\i=.int .i64 k/\wr.ownsRow w.heap.size 84 1 l (if k=0 then 0 else if k=1 then H else H+O) (if k=0 then[] else if k=1 then N else N++U)/\Below w.heap.size w wr) (fun _ i _=>2-(intOf i).toNat)
   case atStart=>exact⟨0,by omega,rfl,HS.out.1,HS.out.2⟩
   case round=>
    obtain⟨k,hk,rfl,h,y⟩:=hrel;have ad:k=0\/k=1\/k=2:=by omega
    have aP:=y.size;have d0:=cK y aw c0;have d1:=cK y aw c1;rcases ad with rfl|rfl|rfl
    ·simp only[if_pos] at h;obtain⟨la,lc,rfl⟩:=own_slice h;have Z:=QhH (owns_below HW.out.1 y);have F:=Hk (Ai h y);clear h y;rcases Z with ⟨M,hz,V⟩|⟨g,gc,M,aH,D⟩
     ·simp only[Value.slice.injEq] at M;obtain⟨rfl,-,rfl⟩:=M;have HZ:=Hk (Ai hz V);subst hz;clear V;go_wp2_with (at_builtin;refine wpList_append_own_none rfl _ _ 52 rfl w.heap.size 84 i0 1 Tryz.underlying52 hi _ _ _ rfl F.out.1 rfl ?_);go_roundw
      case rel=>exact⟨.slice la 0 lc,_,.int .i64 1,⟨1,by omega,by simp,by rw[HZ.out.2];simpa using F.out.1,F.out.2⟩,rfl,rfl,rfl⟩
      case measure=>simp[intOf]
     ·simp only[Value.slice.injEq,true_and] at M;obtain⟨rfl,rfl⟩:=M;have HC:=Hk D;clear D;go_wp2_with (at_builtin;refine wpList_append_own _ rfl _ _ 52 rfl w.heap.size 84 i0 (.slice none 0 0) 1 24 Tryz.underlying52 hi al ap aq rfl (by decide) _ _ _ rfl F.out.1 ⟨g,0,none⟩ H k1 N rfl ?c0 HC.out ?c2 ?c3 ?c4 ?c5 ?_)
      case c0=>have:=HL.out.1;omega
      case c2=>exact fun u V=>HW.out.2.2 u (List.mem_append_left _ V)
      case c3=>unfold maxLen;omega
      case c4=>omega
      case c5=>omega
      intro v' w5 J I _;have K:Below w.heap.size w w5:=F.out.2.grown I (by omega) (fun q hq=>(F.out.1.lt q hq).1);have HF:=Hk (Ai J K);clear J I K;go_wp2;go_roundw
      case rel=>exact⟨1,by omega,by go_num,by simpa using HF.out.1,HF.out.2⟩
      case measure=>simp[intOf]
    ·simp only[if_neg,if_pos] at h;obtain⟨la,lc,rfl⟩:=own_slice h;have Z:=QhH (owns_below HW.out.2.1 y);have F:=Hk (Ai h y);clear h y;rcases Z with ⟨M,hz,V⟩|⟨g,gc,M,aH,D⟩
     ·simp only[Value.slice.injEq] at M;obtain⟨rfl,-,rfl⟩:=M;have HZ:=Hk (Ai hz V);subst hz;clear V;go_wp2_with (at_builtin;refine wpList_append_own_none rfl _ _ 52 rfl w.heap.size 84 i0 1 Tryz.underlying52 hi _ _ _ rfl F.out.1 rfl ?_);go_roundw
      case rel=>exact⟨.slice la H lc,_,.int .i64 2,⟨2,by omega,by simp,by rw[HZ.out.2];simpa using F.out.1,F.out.2⟩,rfl,rfl,rfl⟩
      case measure=>simp[intOf]
     ·simp only[Value.slice.injEq,true_and] at M;obtain⟨rfl,rfl⟩:=M;have HC:=Hk D;clear D;go_wp2_with (at_builtin;refine wpList_append_own _ rfl _ _ 52 rfl w.heap.size 84 i0 (.slice none 0 0) 1 24 Tryz.underlying52 hi al ap aq rfl (by decide) _ _ _ rfl F.out.1 ⟨g,0,none⟩ O k2 U rfl ?c0 HC.out ?c2 ?c3 ?c4 ?c5 ?_)
      case c0=>have:=HL.out.2;omega
      case c2=>exact fun u V=>HW.out.2.2 u (List.mem_append_right _ V)
      case c3=>unfold maxLen;omega
      case c4=>omega
      case c5=>omega
      intro v' w5 J I _;have K:Below w.heap.size w w5:=F.out.2.grown I (by omega) (fun q hq=>(F.out.1.lt q hq).1);have HF:=Hk (Ai J K);clear J I K;go_wp2;go_roundw
      case rel=>exact⟨2,by omega,by go_num,by simpa using HF.out.1,HF.out.2⟩
      case measure=>simp[intOf]
    ·have F:=Hk (Ai h y);obtain⟨la,lc,hl⟩:=own_slice h;subst hl;clear h y;go_wp2;go_ret;exact⟨_,rfl,by simpa using F.out.1,F.out.2⟩
theorem Qo9 {a b:ByteArray} (h:a.data.toList=b.data.toList):a=b:=by
 obtain⟨⟨a⟩⟩:=a;obtain⟨⟨b⟩⟩:=b;simp only at h;rw[h]
theorem Qpa (b o c J N c' n H:Nat) (cs D:List Cl) (w:World) (hn:cs.length=n) (K:D.length=H) (h8:n<=100) (ax:H<=100) (hb:b<w.heap.size) (Z:J<w.heap.size) (hc:Qau w b o cs) (U:Qau w J N D) (I:cs≠D):
 Calls Tryz.prog 14 #[.slice (some ⟨b,o,none⟩) n c,.slice (some ⟨J,N,none⟩) H c'] w fun e w'=>e=.returned (.bool false)/\Below w.heap.size w w':=by
 by_cases al:n=H
 ·subst al;have HN:=Hk (Ai hn (Ai K I));clear hn K I;go_enter Tryz.func14,Tryz.ntmps14;go_wp2;go_loopw [13] (fun i wr=>∃k:Nat,k<=n/\i=.int .i64 k/\(∀q (h:q<cs.length) (h':q<D.length),q<k->cs[q]=D[q])/\Below w.heap.size w wr) (fun i _=>n-(intOf i).toNat)
  case atStart=>exact⟨0,Nat.zero_le _,rfl,fun q _ _ h=>absurd h (by omega),Below.refl _ _⟩
  case round=>
   obtain⟨k,hk,rfl,aa,F⟩:=hrel;have HA:=Hk aa;clear aa
   by_cases hlt:k<n
   ·have ah:k<cs.length:=by have:=HN.out.1;omega
    have hk2':k<D.length:=by have:=HN.out.2.1;omega
    obtain⟨c1,c2⟩:=hc k ah;have d1:=cK F hb c1;have d2:=cK F hb c2;obtain⟨c3,c4⟩:=U k hk2';have d3:=cK F Z c3;have d4:=cK F Z c4;clear c1 c2 c3 c4;obtain⟨x,hx⟩:∃x,cs[k]=x:=⟨_,rfl⟩;obtain⟨y,hy⟩:∃y,D[k]=y:=⟨_,rfl⟩;rw[hx] at d1 d2;rw[hy] at d3 d4;have ab:=Hk (Ai hx hy);clear hx hy
    by_cases M:x.1.toList=y.1.toList
    ·by_cases e2:x.2=y.2
     ·have V:x=y:=Prod.ext (Qo9 (by rw[ByteArray.toList_eq,ByteArray.toList_eq] at M;exact M)) e2;have HE:=Hk (show cs[k]=D[k] by rw[ab.out.1,ab.out.2];exact V);subst V;clear M e2;go_wp2;go_quiet (fail);go_wp2;go_roundw
      case rel=>
       refine⟨k+1,by omega,by go_num,fun q h h' hq=>?_,below_drewN F _⟩;rcases Nat.lt_or_ge q k with O|O
       ·exact HA.out q h h' O
       ·obtain rfl:q=k:=by omega
        exact HE.out
      case measure=>simp[intOf];omega
     ·have e2':(x.2==y.2)=false:=by simp[e2]
      have e1':(x.1.toList==y.1.toList)=true:=by simp[M]
      go_wp2;go_quiet (fail);go_wp2
      all_goals go_ret
      all_goals exact⟨rfl,below_drewN F _⟩
    ·have e1':(x.1.toList==y.1.toList)=false:=by simp[M]
     go_wp2;go_quiet (fail);go_wp2
     all_goals go_ret
     all_goals exact⟨rfl,below_drewN F _⟩
   ·exfalso;obtain⟨h1,h2,h3⟩:=HN.out;exact h3 (List.ext_getElem (by omega) fun q hq hq'=>HA.out q hq hq' (by omega))
 ·have hnn':((n:Int) != (H:Int))=true:=by simp;omega
  clear I hn K hc U;go_enter Tryz.func14,Tryz.ntmps14;go_wp2;go_ret;exact⟨rfl,Below.refl _ _⟩
noncomputable def Qdz (cs cs':List Cl):Int:=by classical exact if cs=cs' then 0 else 13
theorem QdH (M ho ac b o c H N Z:Nat) (cs h:List Cl) (j:Jb) (w:World) (F:j.code=5) (ae:M<w.heap.size) (h0:w.cell? ⟨M,ho,none⟩=some (.slice (some ⟨b,o,none⟩) cs.length c)) (y:w.cell? ⟨M,ho+1,none⟩=some (.slice (some ⟨H,N,none⟩) h.length Z)) (h8:cs.length<=60) (af:h.length<=60) (U:b<w.heap.size) (K:H<w.heap.size) (O:Qau w b o cs) (D:Qau w H N h):
 Calls Tryz.prog 96 #[.agg j.cells,.slice (some ⟨M,ho,none⟩) 2 ac] w fun e w'=>e=.returned (QbK (Qdz cs h))/\Below w.heap.size w w':=by
 obtain⟨code,V⟩:∃k,j.code=k:=⟨_,rfl⟩;unfold Jb.cells;rw[V] at F⊢;clear V;subst F
 by_cases he:cs=h
 ·subst he;have I:Qdz cs cs=0:=by unfold Qdz;rw[if_pos rfl]
  rw[I,QeH];have HT:=Hk (fun W (y:Below w.heap.size w W)=>Qo6 b o c H N Z cs.length cs W rfl (by omega) (by have:=y.size;omega) (by have:=y.size;omega) (O.below y U) (D.below y K));clear I O D;go_enter Tryz.func96,Tryz.ntmps96;go_wp2_with (go_at_call 14;refine(HT.out _ (Qaa _ _)).mono ?_;rintro e w1 ⟨rfl,J⟩);go_ret;exact⟨rfl,bel_then (Qaa _ _) J⟩
 ·have I:Qdz cs h=13:=by unfold Qdz;rw[if_neg he]
  rw[I,QaS (by decide)];have HT:=Hk (fun W (y:Below w.heap.size w W)=>Qpa b o c H N Z cs.length h.length cs h W rfl rfl (by omega) (by omega) (by have:=y.size;omega) (by have:=y.size;omega) (O.below y U) (D.below y K) he);clear I O D he;go_enter Tryz.func96,Tryz.ntmps96;go_wp2_with (go_at_call 14;refine(HT.out _ (Qaa _ _)).mono ?_;rintro e w1 ⟨rfl,J⟩);go_ret;exact⟨rfl,bel_then (Qaa _ _) J⟩
theorem Qab.append {w:World} {B:Nat} {us F:List Value} {rs H:List (List Vl)} (h:Qab w B us rs) (I:Qab w B F H):Qab w B (us++F) (rs++H):=by
 refine⟨by simp[h.1,I.1],fun j hj hj'=>?_⟩
 by_cases y:j<us.length
 ·have hlt':j<rs.length:=by rw[<-h.1];exact y
  simp only[List.getElem_append_left y,List.getElem_append_left hlt'];exact h.2 j y hlt'
 ·have D:us.length<=j:=by omega
  have hge':rs.length<=j:=by rw[<-h.1];exact D
  simp only[List.getElem_append_right D,List.getElem_append_right hge',h.1];have:=I.2 (j-rs.length) (by rw[List.length_append] at hj;rw[<-h.1];omega) (by rw[List.length_append] at hj';omega);exact this
theorem QnW {w J:World} {B B':Nat} {us F:List Value} {rs I:List (List Vl)} (h:Qab w B us rs) (H:Qab J B' F I):∀u∈us++F,u.oneCell'=true:=by
 intro u D;rcases List.mem_append.1 D with D|D
 ·obtain⟨j,y,rfl⟩:=List.mem_iff_getElem.1 D;obtain⟨a,c,e⟩:=own_slice (h.2 j y (by rw[<-h.1];exact y)).1;rw[e];rfl
 ·obtain⟨j,y,rfl⟩:=List.mem_iff_getElem.1 D;obtain⟨a,c,e⟩:=own_slice (H.2 j y (by rw[<-H.1];exact y)).1;rw[e];rfl
theorem QhI (tb tcap:Nat) (vc vr U:Value) (cs:List Cl) (rs y:List (List Vl)) (j:Jb) (w:World) (F:j.code=5) (N:tb<w.heap.size) (t0:w.cell? ⟨tb,0,none⟩=some vc) (t1:w.cell? ⟨tb,1,none⟩=some vr) (t3:w.cell? ⟨tb,3,none⟩=some U)
 (hc:Qax w vc cs) (hr:QaG w vr rs) (ag:QaG w U y) (ah:∀r∈y,r.length=cs.length) (V:y.length<=100) (h1:1<=cs.length) (h6:cs.length<=100) (hl:∀r∈rs,r.length=cs.length) (ae:rs.length<=100):
 Calls Tryz.prog 102 #[.agg j.cells,.slice (some ⟨tb,0,none⟩) 2 tcap] w fun e w'=>∃v1 us1,e=.returned (.tuple #[v1,.slice none 0 0,.nilIface])/\w'.ownsRow w.heap.size 84 1 v1 (rs++y).length us1/\Qab w' w.heap.size us1 (rs++y)/\Below w.heap.size w w':=by
 have aQ:=mkF;have aj:=Hk (fun W (hW:Below w.heap.size w W)=>Qa0 vr rs cs.length W (hr.below hW) hl h1 h6 ae);have aB:=Hk (fun W (hW:Below w.heap.size w W)=>Qa0 U y cs.length W (ag.below hW) ah h1 h6 V);clear hl ah;obtain⟨va,ai,rfl,-⟩:=hc;obtain⟨ra,ar,rfl,-⟩:=hr;obtain⟨aV,aK,rfl,-⟩:=ag;have ak:QaC (w.alloc (.cells j.cells 50)) w.heap.size j:=fun k v hk=>by rw[World.cell?_alloc_at _ _ _ _ rfl];exact hk
 have H:=Hk ak;clear ak;unfold Jb.cells at H⊢;rw[F] at H⊢;have aF:=Hk F;clear F
 all_goals
  go_enter Tryz.func102,Tryz.ntmps102;go_wp2_with fail
  go_cut [7,8] (fun p v wx=>∃(ab:Nat) (us:List Value),p=.pointer (some ⟨ab,0,none⟩)/\wx.cell? ⟨ab,0,none⟩=some (.slice va cs.length ai)/\ab<wx.heap.size/\wx.ownsRow (w.heap.size+1) 84 1 v rs.length us/\Qab wx (w.heap.size+1) us rs/\QaC wx w.heap.size j/\Below w.heap.size w wx)
  case first=>
   go_region_held3 (fun w'=>w'.cell? ⟨tb,0,none⟩=some (.slice va cs.length ai)/\w'.cell? ⟨tb,1,none⟩=some (.slice ra rs.length ar))
    (first|(go_keep;done)|exact⟨(World.cell?_setCell_other _ _ _ _ (by intro e;simp at e;try omega)).trans k0,(World.cell?_setCell_other _ _ _ _ (by intro e;simp at e;try omega)).trans k1⟩)
    (first|(go_at_call 137;refine(aj.out _ (by first|exact(Qaa _ _).drew|exact(bel_box (Qaa _ _) _).drew)).mono ?_;rintro e K ⟨v1,us,rfl,J,I,h⟩;have D:=bel_then (show Below w.heap.size w _ from(by first|exact(Qaa _ _).drew|exact(bel_box (Qaa _ _) _).drew)) h;have k0:=cK D N t0;have k1:=cK D N t1;have aS:tb<K.heap.size:=Nat.lt_of_lt_of_le N D.size;(try(have kb:=(h.cell (p:=⟨w.heap.size+1,0,none⟩) (by simp)).trans (show _=some (Value.slice none 0 0) by simp);have kf:=(h.frozen (p:=⟨w.heap.size+1,0,none⟩) (by simp)).trans (show _=false by simp);have kz:w.heap.size+1<K.heap.size:=by(have:=h.size;simp at this;omega)))))
   all_goals go_wp2_with fail
   all_goals go_meet
   ·have O:QaC K w.heap.size j:=fun k v hk=>(h.cell (p:=⟨w.heap.size,k,none⟩) (by simp)).trans (by simpa using H.out k v hk)
    exact⟨K.heap.size,us,rfl,by simp,by simp,(own_mono (by simp) J).alloc _,(I.mono (by simp)).below (Qaa _ _),O.below (Qaa _ _) (by have:=h.size;simp at this;omega),bel_box D _⟩
   ·have O:QaC K w.heap.size j:=fun k v hk=>(h.cell (p:=⟨w.heap.size,k,none⟩) (by simp;omega)).trans (by simpa using H.out k v hk)
    exact⟨w.heap.size+1,us,rfl,World.cell?_setCell_same _ _ _ kb,by simpa using kz,own_mono (by simp) (ownsRow_setCell_below J (by simp) _),(Qab.set I (by simp)).mono (by simp),fun k v hk=>(World.cell?_setCell_other _ _ _ _ (by intro e;simp at e)).trans (O k v hk),D.setCell (by show w.heap.size<=w.heap.size+1;omega) _⟩
  case rest=>
   obtain⟨ab,us,rfl,aO,aG,hv,hH,hJ,M⟩:=hcut;have aP:=M.size;have j1:wc.cell? ⟨w.heap.size,1,none⟩=some (.int .i64 5):=by have:=hJ 1 (.int .i64 j.code) rfl;rw[aF.out] at this;exact this
   have m3:=cK M N t3;have aR:=hJ.lt;have Z:=Hk (Ai M (Ai hv hH));obtain⟨xa,xc,rfl⟩:=own_slice hv;clear M hv hH hJ aj H t0 t1 t3;go_wp2_with (first|(go_at_call 137;refine(aB.out _ Z.out.1).mono ?_;rintro e K ⟨v1,af,rfl,J,I,h⟩;obtain⟨aW,aU,rfl⟩:=own_slice J)|(go_at_call 145;refine(Qkr K.heap.size rs.length y.length _ _ us af _ _ _ (by simp) (by simp) (by simp) ((owns_below Z.out.2.1 h).alloc _) (J.alloc _) ae V (QnW Z.out.2.2 I)).mono ?_;rintro e w2 ⟨v2,rfl,aE,aa⟩))
   go_ret3
   have aT:=h.size;refine⟨_,us++af,rfl,?_,?_,bel_then (bel_box (bel_then Z.out.1 h) _) aa⟩
   ·rw[List.length_append];exact own_mono (by simp;omega) aE
   ·have g1:=((Z.out.2.2.below h).below (Qaa _ _)).below aa;have g2:=(I.below (Qaa _ _)).below aa;exact(g1.mono (by omega)).append (g2.mono (by omega))
noncomputable def QdI (t u:Tb):Int:=by classical exact if Qae t.1 t.2=false\/Qae u.1 u.2=false then 1 else if t.1≠u.1 then 13 else if 60<t.2.length+u.2.length then 12 else 0
theorem QlM {t u:Tb} (h:QdI t u=0):Qae t.1 t.2=true/\Qae u.1 u.2=true/\t.1=u.1/\t.2.length+u.2.length<=60:=by
 unfold QdI at h;split at h
 ·cases h
 ·rename_i y
  split at h
  ·cases h
  ·rename_i D
   split at h
   ·cases h
   ·rename_i F
    refine⟨?_,?_,by simpa using D,by omega⟩
    ·cases g:Qae t.1 t.2 with
     |true=>rfl
     |false=>exact absurd (Or.inl g) y
    ·cases g:Qae u.1 u.2 with
     |true=>rfl
     |false=>exact absurd (Or.inr g) y
theorem heads_of {W:World} {B g O:Nat} {us:List Value} {cs h:List Cl} (F:W.ownsRow B 51 1 (.slice (some ⟨g,0,none⟩) 2 O) 2 us) (M:QaE W us [cs,h]) (h1:1<=cs.length) (U:1<=h.length):
 ∃b o c y D H,W.cell? ⟨g,0,none⟩=some (.slice (some ⟨b,o,none⟩) cs.length c)/\W.cell? ⟨g,0+1,none⟩=some (.slice (some ⟨y,D,none⟩) h.length H)/\g<W.heap.size/\b<W.heap.size/\y<W.heap.size/\Qau W b o cs/\Qau W y D h:=by
 obtain⟨u,hu,hc⟩:=M.2 0 (by simp);obtain⟨u',V,N⟩:=M.2 1 (by simp);obtain⟨b,o,c,rfl,K,Z⟩:=QbF hc h1;obtain⟨y,D,H,rfl,I,J⟩:=QbF N U;exact⟨b,o,c,y,D,H,Qcy F 0 _ (by decide) hu,Qcy F 1 _ (by decide) V,(F.lt g rfl).2,K,I,Z,J⟩
theorem QcD {t u:Tb} (h:Qae t.1 t.2=true) (D:Qae u.1 u.2=true):∀x∈[t,u],Qae x.1 x.2=true:=by
 intro x y;simp at y;rcases y with rfl|rfl
 ·exact h
 ·exact D
theorem Qji {t u:Tb} {j:Jb} {w:World} (oa:Option Addr) (U:Nat) (y:j.code=5) (K:j.outs=.slice oa 1 U) (hr:Qae t.1 t.2=true) (O:Qae u.1 u.2=true) (he:t.1=u.1):
 ∀W B g h us,Below w.heap.size w W->W.ownsRow B 51 1 (.slice (some ⟨g,0,none⟩) [t,u].length h) [t,u].length us->QaE W us ([t,u].map (·.1))->Calls Tryz.prog 59 #[.agg j.cells,.slice (some ⟨g,0,none⟩) [t,u].length h] W fun e w'=>∃v us,e=.returned (.tuple #[v,.nilIface])/\w'.ownsRow W.heap.size 51 1 v 1 us/\Qbj w' W.heap.size us t.1/\Below W.heap.size W w':=by
 obtain⟨Z,aj,ak,ai⟩:=Qam hr;obtain⟨N,ao,al,am⟩:=Qam O;have V:Qa1 j.code=(((2:Nat):Int),((1:Nat):Int)):=by rw[y];rfl
 intro W B g h us hW ho hh;obtain⟨b,o,c,b',o',c',I,ab,D,F,H,J,M⟩:=heads_of ho hh Z N;refine cols_ok _ oa h U j 2 1 t.1 W K V (by decide) (by decide) (fun W' hW'=>?_) (fun W' hW'=>QbC g 0 2 h b o t.1.length c t.1 j W' (Or.inr (Or.inr (Or.inr (Or.inr (Or.inl y))))) (by decide) (Nat.lt_of_lt_of_le D hW'.size) (cK hW' D I) rfl (by omega) (Nat.lt_of_lt_of_le F hW'.size) (J.below hW' F));have:=QdH g 0 h b o c b' o' c' t.1 u.1 j W' y (Nat.lt_of_lt_of_le D hW'.size) (cK hW' D I) (cK hW' D ab) (by omega) (by omega) (Nat.lt_of_lt_of_le F hW'.size) (Nat.lt_of_lt_of_le H hW'.size) (J.below hW' F) (M.below hW' H);rw[show Qdz t.1 u.1=0 by unfold Qdz;rw[if_pos he]] at this;exact this
theorem Qjj {tb tcap:Nat} {t u:Tb} {j:Jb} {w:World} (H:j.code=5) (N:QaX w tb 0 [t,u]) (D:tb<w.heap.size) (hr:Qae t.1 t.2=true) (M:Qae u.1 u.2=true) (he:t.1=u.1):
 ∀W,Below w.heap.size w W->Calls Tryz.prog 102 #[.agg j.cells,.slice (some ⟨tb,0,none⟩) [t,u].length tcap] W fun e w'=>∃F v2 y us2,e=.returned (.tuple #[F,v2,.nilIface])/\w'.ownsRow W.heap.size 84 1 F (t.2++u.2).length y/\Qab w' W.heap.size y (t.2++u.2)/\w'.ownsRow W.heap.size 84 1 v2 ([]:List (List Vl)).length us2/\Qab w' W.heap.size us2 []/\Below W.heap.size W w':=by
 obtain⟨V,ai,am,J⟩:=Qam hr;obtain⟨ah,al,ao,K⟩:=Qam M;intro W h;obtain⟨vc,vr,c0,c1,hc,O⟩:=N 0 (by simp);obtain⟨ak,U,c2,c3,aj,I⟩:=N 1 (by simp);refine(QhI tb tcap vc vr U t.1 t.2 u.2 j W H (Nat.lt_of_lt_of_le D h.size) ((h.cell (p:=⟨tb,0,none⟩) D).trans (by simpa using c0)) ((h.cell (p:=⟨tb,1,none⟩) D).trans (by simpa using c1)) ((h.cell (p:=⟨tb,3,none⟩) D).trans (by simpa using c3)) (hc.below h) (O.below h) (I.below h) (by rw[he];exact K) (by omega) V (by omega) J (by omega)).mono ?_;rintro e w' ⟨F,y,h1,Z,h3,hb⟩;exact⟨F,.slice none 0 0,y,[],h1,Z,h3,World.ownsRow_nil _ _ _ _,Qab.nil _ _,hb⟩
theorem Qks (tb tcap:Nat) (t u:Tb) (j:Jb) (U:Option Addr) (O:Nat) (w:World) (y:j.code=5) (H:j.outs=.slice U 1 O) (K:QaX w tb 0 [t,u]) (D:tb<w.heap.size) (Z:QdI t u≠0):
 Calls Tryz.prog 61 #[.agg j.cells,.slice (some ⟨tb,0,none⟩) 2 tcap] w fun e w'=>e=.returned (.tuple #[.slice none 0 0,QbK (QdI t u)])/\Below w.heap.size w w':=by
 have ad:Qa1 j.code=(((2:Nat):Int),((1:Nat):Int)):=by rw[y];rfl
 by_cases h1:Qae t.1 t.2=false\/Qae u.1 u.2=false
 ·rw[show QdI t u=1 by unfold QdI;rw[if_pos h1]];refine QhC tb 0 tcap [t,u] j w K D (by simp) ?_;rcases h1 with h|h
  ·exact⟨t,by simp,h⟩
  ·exact⟨u,by simp,h⟩
 ·have F:Qae t.1 t.2=true:=by
   cases g:Qae t.1 t.2 with
   |true=>rfl
   |false=>exact absurd (Or.inl g) h1
  have hr':Qae u.1 u.2=true:=by
   cases g:Qae u.1 u.2 with
   |true=>rfl
   |false=>exact absurd (Or.inr g) h1
  obtain⟨ae,am,ap,al⟩:=Qam F;obtain⟨aa,ao,aq,ar⟩:=Qam hr'
  by_cases he:t.1=u.1
  ·by_cases hf:60<t.2.length+u.2.length
   ·rw[show QdI t u=12 by unfold QdI;rw[if_neg h1,if_neg (by simpa using he),if_pos hf]];exact QlC tb 0 tcap [t,u] j w K D (by simp) (by simp) (QcD F hr') t.1 1 (t.2++u.2) [] (by simpa using hf) (Qji U O y H F hr' he) (Qjj y K D F hr' he)
   ·exfalso;apply Z;unfold QdI;rw[if_neg h1,if_neg (by simpa using he),if_neg hf]
  ·rw[show QdI t u=13 by unfold QdI;rw[if_neg h1,if_pos he]];refine QhD tb 0 tcap [t,u] j w K D (by simp) (by simp) (QcD F hr') 13 (by decide) ?_;intro W B g N us hW ho hh;obtain⟨b,o,c,b',o',c',ab,af,J,M,I,ac,V⟩:=heads_of ho hh ae aa;refine Qdm _ U N O j 2 1 13 W H ad (by decide) (by decide) (fun W' hW'=>?_);have:=QdH g 0 N b o c b' o' c' t.1 u.1 j W' y (Nat.lt_of_lt_of_le J hW'.size) (cK hW' J ab) (cK hW' J af) (by omega) (by omega) (Nat.lt_of_lt_of_le M hW'.size) (Nat.lt_of_lt_of_le I hW'.size) (ac.below hW' M) (V.below hW' I);rw[show Qdz t.1 u.1=13 by unfold Qdz;rw[if_neg he]] at this;exact this
theorem QlN (tb tcap:Nat) (t u:Tb) (j:Jb) (K:Option Addr) (M:Nat) (w:World) (h:j.code=5) (F:j.outs=.slice K 1 M) (I:QaX w tb 0 [t,u]) (D:tb<w.heap.size) (J:QdI t u=0):
 Calls Tryz.prog 61 #[.agg j.cells,.slice (some ⟨tb,0,none⟩) 2 tcap] w fun e w'=>∃g c,e=.returned (.tuple #[.slice (some ⟨g,0,none⟩) 1 c,.nilIface])/\w.heap.size<=g/\g<w'.heap.size/\QbP w' w.heap.size g [(t.1,t.2++u.2)]/\Below w.heap.size w w':=by
 obtain⟨H,y,he,N⟩:=QlM J;obtain⟨V,Z,c0,c1,O,U⟩:=I 0 (by simp);exact QdU tb 0 tcap [t,u] j w I D (by simp) (by simp) (QcD H y) t.1 (t.2++u.2) [] (by simpa using N) (Qbo O) (Qji K M h F H y he) (Qjj h I D H y he)
theorem Jb.size (j:Jb):j.cells.size=15:=rfl
theorem QaC.put {w:World} {N:Nat} {j D:Jb} (h:QaC w N j) (k:Nat) (x:Value) (F:k<15) (he:D.cells=j.cells.set! k x):QaC (w.setCell ⟨N,k,none⟩ x) N D:=by
 intro q v y;rw[he,Array.set!_eq_setIfInBounds,Array.getElem?_setIfInBounds] at y
 by_cases e:k=q
 ·subst e;rw[if_pos rfl,if_pos (by rw[Jb.size];exact F)] at y;injection y with y;subst y;have H:=h k (j.cells[k]'(by rw[Jb.size];exact F)) (Array.getElem?_eq_getElem _);exact World.cell?_setCell_same _ _ _ H
 ·rw[if_neg e] at y;exact(World.cell?_setCell_other _ _ _ _ (by intro I;simp at I;try omega)).trans (h q v y)
def Qdd (w:World) (N:Nat):Prop:=∀k,w.frozen? ⟨N,k,none⟩=false
theorem Qdd.below {w w':World} {N B:Nat} (h:Qdd w N) (D:Below B w w') (y:N<B):Qdd w' N:=fun k=>(D.frozen (p:=⟨N,k,none⟩) y).trans (h k)
theorem Qdd.put {w:World} {N M k:Nat} {x:Value} (h:Qdd w N):Qdd (w.setCell ⟨M,k,none⟩ x) N:=fun q=>by rw[World.frozen?_setCell];exact h q
theorem Qdd.new (w:World) (o:Obj) (cs:Array Value) (t:TypeId) (h:o=.cells cs t):Qdd (w.alloc o) w.heap.size:=fun k=>by subst h;simp
def TabIs (w:World) (b:Nat) (cs:List Cl) (rs:List (List Vl)):Prop:=∃x y,w.cell? ⟨b,0,none⟩=some x/\w.cell? ⟨b,1,none⟩=some y/\b<w.heap.size/\Qax w x cs/\QaG w y rs
theorem TabIs.below {w w':World} {b:Nat} {cs:List Cl} {rs:List (List Vl)} (h:TabIs w b cs rs) (D:Below w.heap.size w w'):TabIs w' b cs rs:=by
 obtain⟨x,y,J,I,F,K,H⟩:=h;exact⟨x,y,cK D F J,cK D F I,Nat.lt_of_lt_of_le F D.size,K.below D,H.below D⟩
theorem Qkt {cs:List Cl} {nm:List UInt8} {i:Nat} (h:Qaq cs nm=some i):(cs[i]'(Qap h)).1.data.toList=nm:=by
 have:=(List.findIdx?_eq_some_iff_getElem.1 h).2.1;simpa using this
theorem QiL {r:List Vl} {cs:List Cl} (h:QaO r cs=true) (i:Nat) (D:i<r.length) (y:i<cs.length):r[i].1=cs[i].2/\rvB r[i]=true:=by
 induction r generalizing cs i with
 |nil=>simp at D
 |cons a r ih=>
  cases cs with
  |nil=>simp at y
  |cons c cs=>
   simp only[QaO,Bool.and_eq_true,beq_iff_eq] at h
   cases i with
   |zero=>exact⟨by simpa using h.1,by simpa using h.2.1⟩
   |succ i=>
    simp only[List.getElem_cons_succ];exact ih h.2.2 i (by simpa using D) (by simpa using y)
theorem QlO {α:Type} (l:List α) (f:α->Vl) (g:α->Cl) (h:∀k∈l,(f k).1=(g k).2/\rvB (f k)=true):QaO (l.map f) (l.map g)=true:=by
 induction l with
 |nil=>rfl
 |cons a l ih=>
  simp only[List.map_cons,QaO,Bool.and_eq_true,beq_iff_eq];exact⟨(h a (by simp)).1,(h a (by simp)).2,ih fun k hk=>h k (by simp[hk])⟩
theorem Qfz (cs:List Cl) (H:∀c∈cs,Qek c.1.data.toList=true/\Qhr c.2=true):∀(J y:List ByteArray) (D:List Cl),(∀nm,Qbk D nm=inS y nm)->QhF cs y J=0->Qcv D (Qbc (Qaj cs J) cs)=true
 |[],_,_,_,_=>rfl
 |s::r,y,D,hseen,h=>by
  rw[QhF] at h;split at h
  ·cases h
  ·rename_i O
   split at h
   ·cases h
   ·rename_i N
    cases g:Qaq cs s.data.toList with
    |none=>exact absurd g O
    |some k=>
     have I:=Qap g;have F:=Qkt g;have M:Qbc (Qaj cs (s::r)) cs=cs[k]::Qbc (Qaj cs r) cs:=by simp[Qbc,Qaj,g,List.getElem?_eq_getElem I]
     rw[M];have K:=H _ (List.getElem_mem I);simp only[Qcv,Bool.and_eq_true];refine⟨K.1,K.2,?_,Qfz cs H r (y++[s]) (D++[cs[k]]) (fun nm=>?_) h⟩
     ·rw[hseen,F];simpa using N
     ·have:=hseen nm;simp only[Qbk,inS,List.any_append,List.any_cons,List.any_nil,Bool.or_false] at this⊢;rw[this,F]
theorem Qgu {cs:List Cl} {rs:List (List Vl)} {h:List ByteArray} (M:Qae cs rs=true) (D:QaQ cs h=0):Qae (Qbc (Qaj cs h) cs) (rs.map (QbQ (Qaj cs h)))=true:=by
 obtain⟨l0,l6,I⟩:=QcB D;obtain⟨K,V,h3⟩:=QaI M;obtain⟨r1,r2,r3,Z⟩:=Qam M;have J:=QcC I;have N:=QbO cs [] (by simp[Qai] at K;exact K.2.2);have U:QhF cs [] h=0:=by unfold QaQ at D;rw[if_neg (by omega)] at D;exact D
 have H:(Qbc (Qaj cs h) cs).length=h.length:=by simp[Qbc,Qaj]
 unfold Qae Qai;rw[Qfz cs N h [] [] (fun nm=>rfl) U,H];simp only[List.length_map,Bool.and_eq_true,decide_eq_true_eq,List.all_eq_true];refine⟨⟨l0,l6,trivial⟩,V,fun q hq=>?_⟩;obtain⟨r,O,rfl⟩:=List.mem_map.1 hq;refine QlO _ _ _ fun k hk=>?_
 have y:=J k hk;have F:k<r.length:=by rw[Z r O];exact y
 rw[List.getElem?_eq_getElem F,List.getElem?_eq_getElem y];exact QiL (h3 r O) k F y
theorem Qde {cs:List Cl} {rs:List (List Vl)} (F:Qae cs rs=true) (p:List Vl->Bool):Qae cs (rs.filter p)=true:=by
 obtain⟨h,y,D⟩:=QaI F;unfold Qae;rw[h];simp only[Bool.true_and,Bool.and_eq_true,decide_eq_true_eq,List.all_eq_true];exact⟨Nat.le_trans (List.length_filter_le _ _) y,fun r hm=>D r (List.mem_filter.1 hm).1⟩
def Jb.filt (j:Jb):Jb:={j with code:=1,cols:=.slice none 0 0}
def Qrd (v:Value):Jb:=⟨0,3,.slice none 0 0,.slice none 0 0,v,⟨#[]⟩,(⟨#[]⟩,0,0,⟨#[]⟩),(⟨#[]⟩,0,0,⟨#[]⟩),0⟩
theorem QhJ {cs:List Cl} {rs D:List (List Vl)} (h:Qae cs rs=true) (F:Qae cs D=true) (I:rs.length+D.length<=60):Qae cs (rs++D)=true:=by
 obtain⟨H,N,J⟩:=QaI h;obtain⟨M,O,K⟩:=QaI F;unfold Qae;rw[H];simp only[Bool.true_and,Bool.and_eq_true,decide_eq_true_eq,List.all_eq_true,List.length_append];refine⟨I,fun r y=>?_⟩;rcases List.mem_append.1 y with y|y
 ·exact J r y
 ·exact K r y
def Stt (w W:World) (b9:Nat) (j:Jb) (cv vc vr vc2 vr2:Value):Prop:=QaC W w.heap.size j.filt/\QaC W b9 (Qrd cv)/\W.cell? ⟨w.heap.size+1,0,none⟩=some vc/\W.cell? ⟨w.heap.size+1,1,none⟩=some vr/\W.cell? ⟨w.heap.size+1+1,0,none⟩=some vc2/\W.cell? ⟨w.heap.size+1+1,1,none⟩=some vr2/\w.heap.size+1+1<W.heap.size/\b9<W.heap.size/\Below w.heap.size w W
theorem Stt.below {w W N:World} {M:Nat} {j:Jb} {K H J F D:Value} (h:Stt w W M j K H J F D) (y:Below W.heap.size W N):Stt w N M j K H J F D:=by
 obtain⟨V,U,c0,c1,c2,c3,I,O,Z⟩:=h;have hs:=y.size;exact⟨V.below y (by omega),U.below y O,cK y (by omega) c0,cK y (by omega) c1,cK y I c2,cK y I c3,by omega,by omega,bel_then Z y⟩
end Go.Proofs.YtjlgejennghhlaaGreatDoor
