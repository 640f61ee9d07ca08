import Derived.Lib.AppendZeros
import Derived.Laws.AppendOwnNone
import Derived.Test.YtofidnijfnhpaaaGreatDoorQ01
import Derived.Test.YtofidnijfnhpaaaGreatDoorQ09
import Derived.Test.YtofidnijfnhpaaaGreatDoorQ08
set_option linter.unusedSimpArgs false
set_option linter.unusedVariables false
set_option linter.unusedSectionVars false
set_option maxRecDepth 1000000
set_option maxHeartbeats 16000000
namespace Go.Proofs.YtofidnijfnhpaaaGreatDoor
open Go.RowKit
theorem Qhg (A y tk tcap:Nat) (vc vr:Value) (cs:List Cl) (rs:List (List Vl)) (j:Jb) (w:World) (ss:List ByteArray) (z:j.code=3) (hs:QaX w j.cols ss) (he:QaB cs ss=0) (bf:0<tk) (O:A<w.heap.size) (t0:w.cell? ⟨A,y,none⟩=some vc) (t1:w.cell? ⟨A,y+1,none⟩=some vr)
 (hc:Qav w vc cs) (hr:QaC w vr rs) (F:1<=cs.length) (h6:cs.length<=100) (V:∀r∈rs,r.length=cs.length) (am:rs.length<=100):
 Calls Tryz.prog 40 #[.agg j.cells,.slice (some ⟨A,y,none⟩) tk tcap] w fun e w'=>∃v1 us1,e=.returned (.tuple #[v1,.slice none 0 0,.nilIface])/\w'.ownsRow w.heap.size 57 1 v1 rs.length us1/\Qac w' w.heap.size us1 (rs.map (Qa2 (Qag cs ss)))/\Below w.heap.size w w':=by
 have bi:=mkF
 have al:=Hk (fun W (hW:Below w.heap.size w W)=>Qba vr rs cs.length W (hr.below hW) V F h6 am)
 obtain⟨l0,l6,D⟩:=Qcb he
 obtain⟨ca,cc,hj,ap,aL,J⟩:=hs
 rcases J with h|⟨nb,no,rfl,aB,J⟩
 ·rw[h] at l0;simp at l0
 obtain⟨cb,co,E,aQ,aw,U⟩:=Qcp hc F
 have ah:(Qag cs ss).length=ss.length:=by simp[Qag]
 have ag:=fun W (F:Below w.heap.size w W)=>Qdq nb no cc cb co cs.length E ss.length ss (Qag cs ss) cs W rfl (by omega) (by have:=F.size;omega) (J.below F aB) rfl h6 (by have:=F.size;omega) (U.below F aw) ah (QcP D)
 have ak:=fun(v:Value) W g gc (T:QaC W v rs) (hg:g<W.heap.size) (hi:QbJ W g 0 (Qag cs ss))=>QfF v rs g 0 gc (Qag cs ss) W T (fun r hr'=>⟨fun k hk=>by have:=Qbu D k hk;have:=V r hr';omega,by have:=V r hr';omega⟩) (by omega) hg hi (by omega) am
 have af:0<(Qag cs ss).length:=by omega
 generalize aJ:Qag cs ss=ks at*
 have aN:=Hk ag
 have aT:=Hk ak
 have HK:=Hk af
 clear ag ak ah D l0 l6 he aJ af J ap aL
 have htk':(0:Int)<(tk:Int):=by omega
 clear V
 subst aQ
 clear hc U
 obtain⟨ra,aE,rfl,-⟩:=hr
 have ad:Qaz (w.alloc (.cells j.cells 28)) w.heap.size j:=fun k v hk=>by rw[World.cell?_alloc_at _ _ _ _ rfl];exact hk
 have B:=Hk ad
 clear ad
 unfold Jb.cells at B⊢
 rw[z,hj] at B⊢
 have ai:=Hk (Ai z hj)
 clear z hj
 all_goals
  go_enter Tryz.func40,Tryz.ntmps40
  go_wp2_with fail
  go_cut [7,8] (fun p v wx=>∃(ab:Nat) (us:List Value),p=.pointer (some ⟨ab,0,none⟩)/\wx.cell? ⟨ab,0,none⟩=some (.slice (some ⟨cb,co,none⟩) cs.length E)/\ab<wx.heap.size/\wx.ownsRow (w.heap.size+1) 57 1 v rs.length us/\Qac wx (w.heap.size+1) us rs/\Qaz wx w.heap.size j/\Below w.heap.size w wx)
  case first=>
   go_region_held3 (fun w'=>w'.cell? ⟨A,y,none⟩=some (.slice (some ⟨cb,co,none⟩) cs.length E)/\w'.cell? ⟨A,y+1,none⟩=some (.slice ra rs.length aE))
    (first|(go_keep;done)|exact⟨(World.cell?_setCell_other _ _ _ _ (by intro e;simp at e;try omega)).trans k0,(World.cell?_setCell_other _ _ _ _ (by intro e;simp at e;try omega)).trans k1⟩)
    (first|(go_at_call 63;refine(al.out _ (by first|exact(Qab _ _).drew|exact(Qad (Qab _ _) _).drew)).mono ?_;rintro e K ⟨v1,us,rfl,I,aj,o⟩;have q:=Qaa (show Below w.heap.size w _ from(by first|exact(Qab _ _).drew|exact(Qad (Qab _ _) _).drew)) o;have k0:=cK q O t0;have k1:=cK q O t1;have bd:A<K.heap.size:=Nat.lt_of_lt_of_le O q.size;(try(have kb:=(o.cell (p:=⟨w.heap.size+1,0,none⟩) (by simp)).trans (show _=some (Value.slice none 0 0) by simp);have kf:=(o.frozen (p:=⟨w.heap.size+1,0,none⟩) (by simp)).trans (show _=false by simp);have kz:w.heap.size+1<K.heap.size:=by(have:=o.size;simp at this;omega)))))
   all_goals go_wp2_with fail
   all_goals go_meet
   ·have N:Qaz K w.heap.size j:=fun k v hk=>(o.cell (p:=⟨w.heap.size,k,none⟩) (by simp)).trans (by simpa using B.out k v hk)
    exact⟨K.heap.size,us,rfl,by simp,by simp,(Qam (by simp) I).alloc _,(aj.mono (by simp)).below (Qab _ _),N.below (Qab _ _) (by have:=o.size;simp at this;omega),Qad q _⟩
   ·have N:Qaz K w.heap.size j:=fun k v hk=>(o.cell (p:=⟨w.heap.size,k,none⟩) (by simp;omega)).trans (by simpa using B.out k v hk)
    exact⟨w.heap.size+1,us,rfl,World.cell?_setCell_same _ _ _ kb,by simpa using kz,Qam (by simp) (ownsRow_setCell_below I (by simp) _),(Qac.set aj (by simp)).mono (by simp),fun k v hk=>(World.cell?_setCell_other _ _ _ _ (by intro e;simp at e)).trans (N k v hk),q.setCell (by show w.heap.size<=w.heap.size+1;omega) _⟩
  case rest=>
   obtain⟨ab,us,rfl,bg,bc,T,hH,Z,M⟩:=hcut
   have bh:=M.size
   have j1:wc.cell? ⟨w.heap.size,1,none⟩=some (.int .i64 3):=by have:=Z 1 (.int .i64 j.code) rfl;rw[ai.out.1] at this;exact this
   have j4:wc.cell? ⟨w.heap.size,4,none⟩=some (.slice (some ⟨nb,no,none⟩) ss.length cc):=by have:=Z 4 j.cols rfl;rw[ai.out.2] at this;exact this
   have bk:=Z.lt
   have ae:=QbA T hH
   have HB:=Hk (Ai M ae)
   obtain⟨xa,xc,rfl⟩:=Qae T
   clear M T hH Z ae al B t0 t1
   go_wp2_with (first|(go_at_call 52;refine(aN.out _ HB.out.1).mono ?_;rintro e K ⟨v1,rfl,I,o⟩;obtain⟨g,gc,rfl,bj,aO,aI⟩:=Qey I HK.out)|(go_at_call 69;refine(aT.out _ _ _ _ (HB.out.2.below o) aO aI).mono ?_;rintro e w2 ⟨v2,aP,rfl,aR,aH,aG⟩))
   go_ret3
   have be:=o.size
   exact⟨_,aP,rfl,Qam (by omega) aR,aH.mono (by omega),Qaa (Qaa HB.out.1 o) aG⟩
def Qfb (t:Tb) (ss:List ByteArray):Int:=if Qan t.1 t.2=false then 1 else QaB t.1 ss
theorem QhX {t:Tb} {ss:List ByteArray} (h:Qfb t ss=0):Qan t.1 t.2=true/\QaB t.1 ss=0:=by
 unfold Qfb at h
 split at h
 ·cases h
 ·rename_i j;exact⟨by simpa using j,h⟩
theorem QdM {o:List Nat} {cs:List Cl} (h:∀x∈cs,x.1.size<=maxLen):∀x∈QaT o cs,x.1.size<=maxLen:=by
 intro x j
 obtain⟨k,-,rfl⟩:=List.mem_map.1 j
 by_cases hk:k<cs.length
 ·simp only[List.getElem?_eq_getElem hk,Option.getD_some]
  exact h _ (List.getElem_mem hk)
 ·rw[List.getElem?_eq_none (by omega)]
  exact Nat.zero_le _
theorem Qiq (z q tcap:Nat) (t:Tb) (j:Jb) (U:Option Addr) (oc:Nat) (ss:List ByteArray) (w:World) (h:j.code=3) (T:j.outs=.slice U 1 oc) (O:QaX w j.cols ss) (ht:Qa0 w z q [t]) (D:z<w.heap.size) (ag:Qfb t ss=0):
 Calls Tryz.prog 14 #[.agg j.cells,.slice (some ⟨z,q,none⟩) 1 tcap] w fun e I=>∃g c,e=.returned (.tuple #[.slice (some ⟨g,0,none⟩) 1 c,.nilIface])/\w.heap.size<=g/\g<I.heap.size/\QbR I w.heap.size g [(QaT (Qag t.1 ss) t.1,t.2.map (Qa2 (Qag t.1 ss)))]/\Below w.heap.size w I:=by
 have ad:QaP j.code=(((1:Nat):Int),((1:Nat):Int)):=by rw[h];rfl
 obtain⟨hr,he⟩:=QhX ag
 obtain⟨N,au,ab,af⟩:=Qar hr
 obtain⟨vc,vr,c0,c1,hc,V⟩:=ht 0 (by simp)
 refine Qex z q tcap [t] j w ht D (by simp) (by simp) (by intro x K;simp at K;rw[K];exact hr) (QaT (Qag t.1 ss) t.1) (t.2.map (Qa2 (Qag t.1 ss))) [] (by simpa using ab) (QdM (QbI hc)) ?_ (fun W y=>?_)
 ·intro W B g F us y ho hh
  obtain⟨b,o,c,M,A,E,J⟩:=Qcy ho hh N
  refine Qde _ U F oc j 1 1 (QaT (Qag t.1 ss) t.1) W T ad (by decide) (by decide) (fun W' hW'=>?_) (fun W' hW'=>Qd6 g 0 1 F b o t.1.length c t.1 ss j W' h (by decide) (Nat.lt_of_lt_of_le A hW'.size) (cK hW' A M) ((O.below y).below hW') he rfl (by omega) (Nat.lt_of_lt_of_le E hW'.size) (J.below hW' E))
  have:=Qfa g 0 1 F b o t.1.length c t.1 ss j W' h (by decide) (Nat.lt_of_lt_of_le A hW'.size) (cK hW' A M) ((O.below y).below hW') rfl (by omega) (Nat.lt_of_lt_of_le E hW'.size) (J.below hW' E)
  rw[he] at this
  exact this
 ·refine(Qhg z q 1 tcap vc vr t.1 t.2 j W ss h (O.below y) he (by decide) (Nat.lt_of_lt_of_le D y.size) ((y.cell (p:=⟨z,q,none⟩) D).trans (by simpa using c0)) ((y.cell (p:=⟨z,q+1,none⟩) D).trans (by simpa using c1)) (hc.below y) (V.below y) N (by omega) af (by omega)).mono ?_
  rintro e I ⟨v1,Z,h1,h2,h3,hb⟩
  exact⟨v1,.slice none 0 0,Z,[],h1,by simpa using h2,h3,World.ownsRow_nil _ _ _ _,Qac.nil _ _,hb⟩
theorem Qkv (n:Nat) (w:World) (K:n<=1000):
 Calls Tryz.prog 98 #[.slice none 0 0,.int .i64 n] w fun e w'=>∃v,e=.returned v/\w'.ownsRow w.heap.size 57 1 v 0 []/\Below w.heap.size w w':=by
 obtain⟨B,D,z,o,q⟩:=info_parts Tryz.infoRow
 by_cases h0:n=0
 ·subst h0
  go_enter Tryz.func98,Tryz.ntmps98
  go_wp2
  go_ret
  exact⟨_,rfl,World.ownsRow_nil _ _ _ _,Below.refl _ _⟩
 ·have y:∀ty,(Builtin.append_ #[34,3] ty #[.slice none 0 0,.int .i64 n]).run Tryz.prog w=_:=fun ty=>Lib.run_append_nil_zeros w 34 3 ty 57 B (.slice none 0 0) .i64 .i64 Tryz.underlying34 Tryz.underlying3 D z n (by omega) (by rw[o];decide) (by omega) (by rw[q];omega)
  have j:=grownCap_ge w n 0 57
  have h:=grownCap_le_maxLen w n 0 57 (by unfold maxLen;omega)
  obtain⟨G,A⟩:∃G,G=grownCap w n 0 57:=⟨_,rfl⟩
  rw[<-A] at y j h
  have hle':(G:Int)<=9223372036854775807:=by unfold maxLen at h;omega
  have I:¬((n:Int)<0):=by omega
  have F:(0:Int)<(n:Int):=by omega
  have E:=Hk (fun(W:World) (J:W.heap.size=w.heap.size)=>World.ownsRow_made (base:=w.heap.size) (e:=57) (size:=1) W (Builtin.zeroCells (Value.slice none 0 0).cells n++Builtin.zeroCells (Value.slice none 0 0).cells (G-n)) G (by omega) h (by rw[Array.size_append,size_zeroCells,size_zeroCells];simp[Value.cells];omega))
  clear A
  go_enter Tryz.func98,Tryz.ntmps98
  go_wp2_with (at_builtin;refine Lib.wpList_append_run _ rfl _ _ _ _ rfl _ _ rfl rfl _ _ (y _) ?_)
  go_ret
  exact⟨_,rfl,E.out w.drew rfl,Qad (Below.refl _ _).drew _⟩
theorem Qgl {w:World} {B:Nat} {v:Value} {n:Nat} {us:List Value} (h:w.ownsRow B 57 1 v n us):v=.slice none 0 0/\n=0/\us=[]\/∃g c,v=.slice (some ⟨g,0,none⟩) n c/\g<w.heap.size/\∀j u,us[j]? =some u->w.cell? ((⟨g,0,none⟩:Addr).add j)=some u:=by
 have h':=h
 obtain⟨A,⟨rfl,q⟩|⟨g,o,y,rfl,D,E,q,F,_,_⟩⟩:=h
 ·refine Or.inl ⟨rfl,q,List.length_eq_zero_iff.1 (by omega)⟩
 ·refine Or.inr ⟨g,o,rfl,(h'.lt g rfl).2,fun j u hj=>?_⟩
  have z:j<us.length:=(List.getElem?_eq_some_iff.1 hj).1
  have e:=h'.cellAt j (by omega)
  rw[Addr.add_mid,Nat.zero_add,e,hj]
theorem Qir (N z I:Nat) (v1 v2:Value) (F J:List Value) (B1 B2:Nat) (w:World) (ah:N<w.heap.size) (c0:w.cell? ⟨N,0,none⟩=some v1) (c1:w.cell? ⟨N,1,none⟩=some v2) (h1:w.ownsRow B1 57 1 v1 z F) (V:w.ownsRow B2 57 1 v2 I J) (aM:z<=100) (aO:I<=100) (ho:∀u∈F++J,u.oneCell'=true):
 Calls Tryz.prog 71 #[.slice (some ⟨N,0,none⟩) 2 2] w fun e w'=>∃v,e=.returned v/\w'.ownsRow w.heap.size 57 1 v (z+I) (F++J)/\Below w.heap.size w w':=by
 obtain⟨i0,Z,am,af,ao⟩:=info_parts Tryz.infoRow
 have HG:=Hk (Qkv (z+I) w (by omega))
 have HW:=Hk (Ai h1 (Ai V ho))
 have ai:F.length=z:=by have:=h1.1;omega
 have aj:J.length=I:=by have:=V.1;omega
 have HL:=Hk (Ai ai aj)
 have aG:wrap64 ((z:Int)+(I:Int))=((z+I:Nat):Int):=by unfold wrap64;omega
 obtain⟨a1,k1,rfl⟩:=Qae h1
 obtain⟨a2,k2,rfl⟩:=Qae V
 clear h1 V ho ai aj
 go_enter Tryz.func71,Tryz.ntmps71
 go_wp2
 go_loopw [3,11] (fun s i wr=>wr=w/\∃k:Nat,k<=2/\i=.int .i64 k/\s=.int .i64 ((if k=0 then 0 else if k=1 then z else z+I:Nat):Int)) (fun _ i _=>2-(intOf i).toNat)
 case atStart=>exact⟨rfl,0,by omega,rfl,rfl⟩
 case round=>
  obtain⟨ak,k,hk,rfl,rfl⟩:=hrel
  have hww':=ak.symm
  subst hww'
  clear ak
  have O:k=0\/k=1\/k=2:=by omega
  rcases O with rfl|rfl|rfl
  ·have ar:¬((z:Int)<0):=by omega
   go_wp2
   all_goals go_roundw
   case rel=>exact⟨by first|trivial|rfl,1,by omega,by go_num,by simp⟩
   case measure=>simp[intOf]
  ·have ar:¬(((z+I:Nat):Int)<0):=by omega
   go_wp2
   all_goals go_roundw
   case rel=>exact⟨by first|trivial|rfl,2,by omega,by go_num,by simp⟩
   case measure=>simp[intOf]
  ·go_wp2_with (go_at_call 98;refine HG.out.mono ?_;rintro e w1 ⟨v,rfl,ag,al⟩)
   have HS:=Hk (Ai ag al)
   clear ag al HG
   go_loopw [6,27] (fun l i wr=>∃k:Nat,k<=2/\i=.int .i64 k/\wr.ownsRow w.heap.size 57 1 l (if k=0 then 0 else if k=1 then z else z+I) (if k=0 then[] else if k=1 then F else F++J)/\Below w.heap.size w wr) (fun _ i _=>2-(intOf i).toNat)
   case atStart=>exact⟨0,by omega,rfl,HS.out.1,HS.out.2⟩
   case round=>
    obtain⟨k,hk,rfl,h,o⟩:=hrel
    have O:k=0\/k=1\/k=2:=by omega
    have aN:=o.size
    have d0:=cK o ah c0
    have d1:=cK o ah c1
    rcases O with rfl|rfl|rfl
    ·simp only[if_pos] at h
     obtain⟨la,lc,rfl⟩:=Qae h
     have M:=Qgl (Qaf HW.out.1 o)
     have y:=Hk (Ai h o)
     clear h o
     rcases M with ⟨E,U,K⟩|⟨g,gc,E,ay,j⟩
     ·simp only[Value.slice.injEq] at E
      obtain⟨rfl,-,rfl⟩:=E
      have HZ:=Hk (Ai U K)
      subst U
      clear K
      go_wp2_with (at_builtin;refine wpList_append_own_none rfl _ _ 34 rfl w.heap.size 57 i0 1 Tryz.underlying34 Z _ _ _ rfl y.out.1 rfl ?_)
      go_roundw
      case rel=>exact⟨.slice la 0 lc,_,.int .i64 1,⟨1,by omega,by simp,by rw[HZ.out.2];simpa using y.out.1,y.out.2⟩,rfl,rfl,rfl⟩
      case measure=>simp[intOf]
     ·simp only[Value.slice.injEq,true_and] at E
      obtain⟨rfl,rfl⟩:=E
      have HC:=Hk j
      clear j
      go_wp2_with (at_builtin;refine wpList_append_own _ rfl _ _ 34 rfl w.heap.size 57 i0 (.slice none 0 0) 1 24 Tryz.underlying34 Z am af ao rfl (by decide) _ _ _ rfl y.out.1 ⟨g,0,none⟩ z k1 F rfl ?c0 HC.out ?c2 ?c3 ?c4 ?c5 ?_)
      case c0=>have:=HL.out.1;omega
      case c2=>exact fun u K=>HW.out.2.2 u (List.mem_append_left _ K)
      case c3=>unfold maxLen;omega
      case c4=>omega
      case c5=>omega
      intro v' w5 B A _
      have D:Below w.heap.size w w5:=y.out.2.grown A (by omega) (fun q hq=>(y.out.1.lt q hq).1)
      have T:=Hk (Ai B D)
      clear B A D
      go_wp2
      go_roundw
      case rel=>exact⟨1,by omega,by go_num,by simpa using T.out.1,T.out.2⟩
      case measure=>simp[intOf]
    ·simp only[if_neg,if_pos] at h
     obtain⟨la,lc,rfl⟩:=Qae h
     have M:=Qgl (Qaf HW.out.2.1 o)
     have y:=Hk (Ai h o)
     clear h o
     rcases M with ⟨E,U,K⟩|⟨g,gc,E,ay,j⟩
     ·simp only[Value.slice.injEq] at E
      obtain⟨rfl,-,rfl⟩:=E
      have HZ:=Hk (Ai U K)
      subst U
      clear K
      go_wp2_with (at_builtin;refine wpList_append_own_none rfl _ _ 34 rfl w.heap.size 57 i0 1 Tryz.underlying34 Z _ _ _ rfl y.out.1 rfl ?_)
      go_roundw
      case rel=>exact⟨.slice la z lc,_,.int .i64 2,⟨2,by omega,by simp,by rw[HZ.out.2];simpa using y.out.1,y.out.2⟩,rfl,rfl,rfl⟩
      case measure=>simp[intOf]
     ·simp only[Value.slice.injEq,true_and] at E
      obtain⟨rfl,rfl⟩:=E
      have HC:=Hk j
      clear j
      go_wp2_with (at_builtin;refine wpList_append_own _ rfl _ _ 34 rfl w.heap.size 57 i0 (.slice none 0 0) 1 24 Tryz.underlying34 Z am af ao rfl (by decide) _ _ _ rfl y.out.1 ⟨g,0,none⟩ I k2 J rfl ?c0 HC.out ?c2 ?c3 ?c4 ?c5 ?_)
      case c0=>have:=HL.out.2;omega
      case c2=>exact fun u K=>HW.out.2.2 u (List.mem_append_right _ K)
      case c3=>unfold maxLen;omega
      case c4=>omega
      case c5=>omega
      intro v' w5 B A _
      have D:Below w.heap.size w w5:=y.out.2.grown A (by omega) (fun q hq=>(y.out.1.lt q hq).1)
      have T:=Hk (Ai B D)
      clear B A D
      go_wp2
      go_roundw
      case rel=>exact⟨2,by omega,by go_num,by simpa using T.out.1,T.out.2⟩
      case measure=>simp[intOf]
    ·have y:=Hk (Ai h o)
     obtain⟨la,lc,hl⟩:=Qae h
     subst hl
     clear h o
     go_wp2
     go_ret
     exact⟨_,rfl,by simpa using y.out.1,y.out.2⟩
theorem Qji {a b:ByteArray} (h:a.data.toList=b.data.toList):a=b:=by
 obtain⟨⟨a⟩⟩:=a
 obtain⟨⟨b⟩⟩:=b
 simp only at h
 rw[h]
theorem Ql9 (b o c E I c' n F:Nat) (cs j:List Cl) (w:World) (Z:cs.length=n) (B:j.length=F) (h8:n<=100) (am:F<=100) (hb:b<w.heap.size) (O:E<w.heap.size) (hc:Qas w b o cs) (T:Qas w E I j) (D:cs≠j):
 Calls Tryz.prog 48 #[.slice (some ⟨b,o,none⟩) n c,.slice (some ⟨E,I,none⟩) F c'] w fun e w'=>e=.returned (.bool false)/\Below w.heap.size w w':=by
 by_cases ah:n=F
 ·subst ah
  have HN:=Hk (Ai Z (Ai B D))
  clear Z B D
  go_enter Tryz.func48,Tryz.ntmps48
  go_wp2
  go_loopw [13] (fun i wr=>∃k:Nat,k<=n/\i=.int .i64 k/\(∀q (h:q<cs.length) (h':q<j.length),q<k->cs[q]=j[q])/\Below w.heap.size w wr) (fun i _=>n-(intOf i).toNat)
  case atStart=>exact⟨0,Nat.zero_le _,rfl,fun q _ _ h=>absurd h (by omega),Below.refl _ _⟩
  case round=>
   obtain⟨k,hk,rfl,J,z⟩:=hrel
   have HA:=Hk J
   clear J
   by_cases hlt:k<n
   ·have ac:k<cs.length:=by have:=HN.out.1;omega
    have hk2':k<j.length:=by have:=HN.out.2.1;omega
    obtain⟨c1,c2⟩:=hc k ac
    have d1:=cK z hb c1
    have d2:=cK z hb c2
    obtain⟨c3,c4⟩:=T k hk2'
    have d3:=cK z O c3
    have d4:=cK z O c4
    clear c1 c2 c3 c4
    obtain⟨x,U⟩:∃x,cs[k]=x:=⟨_,rfl⟩
    obtain⟨y,V⟩:∃y,j[k]=y:=⟨_,rfl⟩
    rw[U] at d1 d2
    rw[V] at d3 d4
    have N:=Hk (Ai U V)
    clear U V
    by_cases A:x.1.toList=y.1.toList
    ·by_cases e2:x.2=y.2
     ·have M:x=y:=Prod.ext (Qji (by rw[ByteArray.toList_eq,ByteArray.toList_eq] at A;exact A)) e2
      have HE:=Hk (show cs[k]=j[k] by rw[N.out.1,N.out.2];exact M)
      subst M
      clear A e2
      go_wp2
      go_quiet (fail)
      go_wp2
      go_roundw
      case rel=>
       refine⟨k+1,by omega,by go_num,fun q h h' hq=>?_,below_drewN z _⟩
       rcases Nat.lt_or_ge q k with K|K
       ·exact HA.out q h h' K
       ·obtain rfl:q=k:=by omega
        exact HE.out
      case measure=>simp[intOf];omega
     ·have e2':(x.2==y.2)=false:=by simp[e2]
      have e1':(x.1.toList==y.1.toList)=true:=by simp[A]
      go_wp2
      go_quiet (fail)
      go_wp2
      all_goals go_ret
      all_goals exact⟨rfl,below_drewN z _⟩
    ·have e1':(x.1.toList==y.1.toList)=false:=by simp[A]
     go_wp2
     go_quiet (fail)
     go_wp2
     all_goals go_ret
     all_goals exact⟨rfl,below_drewN z _⟩
   ·exfalso
    obtain⟨h1,h2,h3⟩:=HN.out
    exact h3 (List.ext_getElem (by omega) fun q hq hq'=>HA.out q hq hq' (by omega))
 ·have hnn':((n:Int) != (F:Int))=true:=by simp;omega
  clear D Z B hc T
  go_enter Tryz.func48,Tryz.ntmps48
  go_wp2
  go_ret
  exact⟨rfl,Below.refl _ _⟩
noncomputable def Qcj (cs cs':List Cl):Int:=by classical exact if cs=cs' then 0 else 13
theorem Qhh (F O U b o c D I T:Nat) (cs h:List Cl) (j:Jb) (w:World) (y:j.code=5) (aa:F<w.heap.size) (h0:w.cell? ⟨F,O,none⟩=some (.slice (some ⟨b,o,none⟩) cs.length c)) (q:w.cell? ⟨F,O+1,none⟩=some (.slice (some ⟨D,I,none⟩) h.length T)) (h8:cs.length<=60) (Z:h.length<=60) (M:b<w.heap.size) (B:D<w.heap.size) (J:Qas w b o cs) (z:Qas w D I h):
 Calls Tryz.prog 26 #[.agg j.cells,.slice (some ⟨F,O,none⟩) 2 U] w fun e w'=>e=.returned (Qbp (Qcj cs h))/\Below w.heap.size w w':=by
 obtain⟨code,K⟩:∃k,j.code=k:=⟨_,rfl⟩
 unfold Jb.cells
 rw[K] at y⊢
 clear K
 subst y
 by_cases he:cs=h
 ·subst he
  have A:Qcj cs cs=0:=by unfold Qcj;rw[if_pos rfl]
  rw[A,Qdp]
  have N:=Hk (fun W (q:Below w.heap.size w W)=>Ql7 b o c D I T cs.length cs W rfl (by omega) (by have:=q.size;omega) (by have:=q.size;omega) (J.below q M) (z.below q B))
  clear A J z
  go_enter Tryz.func26,Tryz.ntmps26
  go_wp2_with (go_at_call 48;refine(N.out _ (Qab _ _)).mono ?_;rintro e V ⟨rfl,E⟩)
  go_ret
  exact⟨rfl,Qaa (Qab _ _) E⟩
 ·have A:Qcj cs h=13:=by unfold Qcj;rw[if_neg he]
  rw[A,Qa1 (by decide)]
  have N:=Hk (fun W (q:Below w.heap.size w W)=>Ql9 b o c D I T cs.length h.length cs h W rfl rfl (by omega) (by omega) (by have:=q.size;omega) (by have:=q.size;omega) (J.below q M) (z.below q B) he)
  clear A J z he
  go_enter Tryz.func26,Tryz.ntmps26
  go_wp2_with (go_at_call 48;refine(N.out _ (Qab _ _)).mono ?_;rintro e V ⟨rfl,E⟩)
  go_ret
  exact⟨rfl,Qaa (Qab _ _) E⟩
theorem Qac.append {w:World} {B:Nat} {us y:List Value} {rs z:List (List Vl)} (h:Qac w B us rs) (A:Qac w B y z):Qac w B (us++y) (rs++z):=by
 refine⟨by simp[h.1,A.1],fun j hj hj'=>?_⟩
 by_cases o:j<us.length
 ·have hlt':j<rs.length:=by rw[<-h.1];exact o
  simp only[List.getElem_append_left o,List.getElem_append_left hlt']
  exact h.2 j o hlt'
 ·have q:us.length<=j:=by omega
  have hge':rs.length<=j:=by rw[<-h.1];exact q
  simp only[List.getElem_append_right q,List.getElem_append_right hge',h.1]
  have:=A.2 (j-rs.length) (by rw[List.length_append] at hj;rw[<-h.1];omega) (by rw[List.length_append] at hj';omega)
  exact this
theorem Qkw {w E:World} {B D:Nat} {us y:List Value} {rs A:List (List Vl)} (h:Qac w B us rs) (z:Qac E D y A):∀u∈us++y,u.oneCell'=true:=by
 intro u q
 rcases List.mem_append.1 q with q|q
 ·obtain⟨j,o,rfl⟩:=List.mem_iff_getElem.1 q
  obtain⟨a,c,e⟩:=Qae (h.2 j o (by rw[<-h.1];exact o)).1
  rw[e];rfl
 ·obtain⟨j,o,rfl⟩:=List.mem_iff_getElem.1 q
  obtain⟨a,c,e⟩:=Qae (z.2 j o (by rw[<-z.1];exact o)).1
  rw[e];rfl
theorem Qcc {t u:Tb} (h:Qan t.1 t.2=true) (o:Qan u.1 u.2=true):∀x∈[t,u],Qan x.1 x.2=true:=by
 intro x j
 simp at j
 rcases j with rfl|rfl
 ·exact h
 ·exact o
theorem Jb.size (j:Jb):j.cells.size=15:=rfl
theorem Qaz.put {w:World} {N:Nat} {j z:Jb} (h:Qaz w N j) (k:Nat) (x:Value) (y:k<15) (he:z.cells=j.cells.set! k x):Qaz (w.setCell ⟨N,k,none⟩ x) N z:=by
 intro q v o
 rw[he,Array.set!_eq_setIfInBounds,Array.getElem?_setIfInBounds] at o
 by_cases e:k=q
 ·subst e
  rw[if_pos rfl,if_pos (by rw[Jb.size];exact y)] at o
  injection o with o
  subst o
  have A:=h k (j.cells[k]'(by rw[Jb.size];exact y)) (Array.getElem?_eq_getElem _)
  exact World.cell?_setCell_same _ _ _ A
 ·rw[if_neg e] at o
  exact(World.cell?_setCell_other _ _ _ _ (by intro B;simp at B;try omega)).trans (h q v o)
def QcQ (w:World) (N:Nat):Prop:=∀k,w.frozen? ⟨N,k,none⟩=false
theorem QcQ.below {w j:World} {N B:Nat} (h:QcQ w N) (o:Below B w j) (q:N<B):QcQ j N:=fun k=>(o.frozen (p:=⟨N,k,none⟩) q).trans (h k)
theorem QcQ.put {w:World} {N M k:Nat} {x:Value} (h:QcQ w N):QcQ (w.setCell ⟨M,k,none⟩ x) N:=fun q=>by rw[World.frozen?_setCell];exact h q
theorem QcQ.new (w:World) (o:Obj) (cs:Array Value) (t:TypeId) (h:o=.cells cs t):QcQ (w.alloc o) w.heap.size:=fun k=>by subst h;simp
def TabIs (w:World) (b:Nat) (cs:List Cl) (rs:List (List Vl)):Prop:=∃x y,w.cell? ⟨b,0,none⟩=some x/\w.cell? ⟨b,1,none⟩=some y/\b<w.heap.size/\Qav w x cs/\QaC w y rs
theorem TabIs.below {w q:World} {b:Nat} {cs:List Cl} {rs:List (List Vl)} (h:TabIs w b cs rs) (j:Below w.heap.size w q):TabIs q b cs rs:=by
 obtain⟨x,y,z,A,o,D,B⟩:=h
 exact⟨x,y,cK j o z,cK j o A,Nat.lt_of_lt_of_le o j.size,D.below j,B.below j⟩
theorem Qis {cs:List Cl} {j:List UInt8} {i:Nat} (h:Qak cs j=some i):(cs[i]'(Qaj h)).1.data.toList=j:=by
 have:=(List.findIdx?_eq_some_iff_getElem.1 h).2.1
 simpa using this
theorem Qjj {r:List Vl} {cs:List Cl} (h:Qbm r cs=true) (i:Nat) (o:i<r.length) (j:i<cs.length):r[i].1=cs[i].2/\rvB r[i]=true:=by
 induction r generalizing cs i with
 |nil=>simp at o
 |cons a r ih=>
  cases cs with
  |nil=>simp at j
  |cons c cs=>
   simp only[Qbm,Bool.and_eq_true,beq_iff_eq] at h
   cases i with
   |zero=>exact⟨by simpa using h.1,by simpa using h.2.1⟩
   |succ i=>
    simp only[List.getElem_cons_succ]
    exact ih h.2.2 i (by simpa using o) (by simpa using j)
def Jb.filt (j:Jb):Jb:={j with code:=1,cols:=.slice none 0 0}
def QmF (v:Value):Jb:=⟨0,3,.slice none 0 0,.slice none 0 0,v,⟨#[]⟩,(⟨#[]⟩,0,0,⟨#[]⟩),(⟨#[]⟩,0,0,⟨#[]⟩),0⟩
def Stt (w W:World) (b9:Nat) (j:Jb) (cv vc vr vc2 vr2:Value):Prop:=Qaz W w.heap.size j.filt/\Qaz W b9 (QmF cv)/\W.cell? ⟨w.heap.size+1,0,none⟩=some vc/\W.cell? ⟨w.heap.size+1,1,none⟩=some vr/\W.cell? ⟨w.heap.size+1+1,0,none⟩=some vc2/\W.cell? ⟨w.heap.size+1+1,1,none⟩=some vr2/\w.heap.size+1+1<W.heap.size/\b9<W.heap.size/\Below w.heap.size w W
theorem Stt.below {w W B:World} {E:Nat} {j:Jb} {D A z y q:Value} (h:Stt w W E j D A z y q) (o:Below W.heap.size W B):Stt w B E j D A z y q:=by
 obtain⟨I,J,c0,c1,c2,c3,z1,z2,F⟩:=h
 have K:=o.size
 exact⟨I.below o (by omega),J.below o z2,cK o (by omega) c0,cK o (by omega) c1,cK o z1 c2,cK o z1 c3,by omega,by omega,Qaa F o⟩
end Go.Proofs.YtofidnijfnhpaaaGreatDoor
