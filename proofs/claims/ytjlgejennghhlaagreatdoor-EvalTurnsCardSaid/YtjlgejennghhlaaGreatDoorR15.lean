import Derived.Deep.RegionHeld3
import Derived.Test.YtjlgejennghhlaaGreatDoorR01
import Derived.Test.YtjlgejennghhlaaGreatDoorR14
set_option linter.unusedSimpArgs false
set_option linter.unusedVariables false
set_option linter.unusedSectionVars false
set_option maxRecDepth 1000000
set_option maxHeartbeats 16000000
namespace Go.Proofs.YtjlgejennghhlaaGreatDoor
open Go.RowKit
theorem Ql3 (n:Nat) (w:World) (V:n<=1000):
 Calls Tryz.prog 206 #[.slice none 0 0,.int .i64 n] w fun e w'=>∃v,e=.returned v/\w'.ownsRow w.heap.size 46 3 v 0 []/\Below w.heap.size w w':=by
 obtain⟨J,M,F,H,D⟩:=info_parts Tryz.infoVal
 by_cases h0:n=0
 ·subst h0;go_enter Tryz.func206,Tryz.ntmps206;go_wp2;go_ret;exact⟨_,rfl,World.ownsRow_nil _ _ _ _,Below.refl _ _⟩
 ·have E:∀ty,(Builtin.append_ #[84,3] ty #[.slice none 0 0,.int .i64 n]).run Tryz.prog w=_:=fun ty=>Lib.run_append_nil_zeros w 84 3 ty 46 J (.agg #[.int .i64 0,.int .i64 0,.string ⟨#[]⟩]) .i64 .i64 Tryz.underlying84 Tryz.underlying3 M F n (by omega) (by rw[H];decide) (by omega) (by rw[D];omega)
  have y:=grownCap_ge w n 0 46;have h:=grownCap_le_maxLen w n 0 46 (by unfold maxLen;omega);obtain⟨G,I⟩:∃G,G=grownCap w n 0 46:=⟨_,rfl⟩;rw[<-I] at E y h;have hle':(G:Int)<=9223372036854775807:=by unfold maxLen at h;omega
  have N:¬((n:Int)<0):=by omega
  have O:(0:Int)<(n:Int):=by omega
  have K:=Hk (fun(W:World) (U:W.heap.size=w.heap.size)=>World.ownsRow_made (base:=w.heap.size) (e:=46) (size:=3) W (Builtin.zeroCells (Value.cells (.agg #[.int .i64 0,.int .i64 0,.string ⟨#[]⟩])) n++Builtin.zeroCells (Value.cells (.agg #[.int .i64 0,.int .i64 0,.string ⟨#[]⟩])) (G-n)) G (by omega) h (by rw[Array.size_append,size_zeroCells,size_zeroCells];simp[Value.cells];omega));clear I;go_enter Tryz.func206,Tryz.ntmps206;go_wp2_with (at_builtin;refine Lib.wpList_append_run _ rfl _ _ _ _ rfl _ _ rfl rfl _ _ (E _) ?_);go_ret;exact⟨_,rfl,K.out w.drew rfl,bel_box (Below.refl _ _).drew _⟩
theorem Qn6 (Z H I N g1 g2 g3 o1 o2 o3 k1 k2 k3:Nat) (J M O:List Value) (w:World) (al:Z<w.heap.size) (c0:w.cell? ⟨Z,0,none⟩=some (.slice (some ⟨g1,o1,none⟩) H k1)) (c1:w.cell? ⟨Z,1,none⟩=some (.slice (some ⟨g2,o2,none⟩) I k2)) (c2:w.cell? ⟨Z,2,none⟩=some (.slice (some ⟨g3,o3,none⟩) N k3)) (aO:g1<w.heap.size) (aB:J.length=H*3) (aE:∀j u,J[j]? =some u->w.cell? ((⟨g1,o1,none⟩:Addr).add j)=some u) (aU:H<=100) (V:∀u∈J,u.oneCell'=true) (aP:g2<w.heap.size) (aw:M.length=I*3) (ay:∀j u,M[j]? =some u->w.cell? ((⟨g2,o2,none⟩:Addr).add j)=some u) (aW:I<=100) (aD:∀u∈M,u.oneCell'=true) (aM:g3<w.heap.size) (aA:O.length=N*3) (aq:∀j u,O[j]? =some u->w.cell? ((⟨g3,o3,none⟩:Addr).add j)=some u) (aV:N<=100) (au:∀u∈O,u.oneCell'=true):
 Calls Tryz.prog 195 #[.slice (some ⟨Z,0,none⟩) 3 3] w fun e w'=>∃v,e=.returned v/\w'.ownsRow w.heap.size 46 3 v (H+I+N) (J++M++O)/\Below w.heap.size w w':=by
 obtain⟨i0,hi,aa,ae,ag⟩:=info_parts Tryz.infoVal;have HG:=Hk (Ql3 (H+I+N) w (by omega));have HL:=Hk (Ai aB (Ai aw aA));have ar:=Hk (Ai aE V);have az:=Hk (Ai ay aD);have ax:=Hk (Ai aq au);clear aB aw aA aE ay aq V aD au;go_enter Tryz.func195,Tryz.ntmps195;go_wp2;go_loopw [3,11] (fun s i wr=>wr=w/\∃k:Nat,k<=3/\i=.int .i64 k/\s=.int .i64 (((if k=0 then 0 else if k=1 then H else if k=2 then H+I else H+I+N):Nat):Int)) (fun _ i _=>3-(intOf i).toNat)
 case atStart=>exact⟨rfl,0,by omega,rfl,rfl⟩
 case round=>
  obtain⟨av,k,hk,rfl,rfl⟩:=hrel;have hww':=av.symm;subst hww';clear av;have ai:k=0\/k=1\/k=2\/k=3:=by omega
  rcases ai with rfl|rfl|rfl|rfl
  ·have ad:¬(((H:Nat):Int)<0):=by omega
   go_wp2
   all_goals go_roundw
   case rel=>exact⟨by first|trivial|rfl,1,by omega,by go_num,by first|(simp;done)|(simp;omega)⟩
   case measure=>simp[intOf]
  ·have ad:¬(((H+I:Nat):Int)<0):=by omega
   go_wp2
   all_goals go_roundw
   case rel=>exact⟨by first|trivial|rfl,2,by omega,by go_num,by first|(simp;done)|(simp;omega)⟩
   case measure=>simp[intOf]
  ·have ad:¬(((H+I+N:Nat):Int)<0):=by omega
   go_wp2
   all_goals go_roundw
   case rel=>exact⟨by first|trivial|rfl,3,by omega,by go_num,by first|(simp;done)|(simp;omega)⟩
   case measure=>simp[intOf]
  ·go_wp2_with (go_at_call 206;fail)
   try rw[show(H:Int)+(I:Int)+(N:Int)=((H+I+N:Nat):Int) by omega]
   refine HG.out.mono ?_;rintro e w1 ⟨v,rfl,V,aC⟩;have HS:=Hk (Ai V aC);clear V aC HG;go_wp2;go_loopw [6,27] (fun l i wr=>∃k:Nat,k<=3/\i=.int .i64 k/\wr.ownsRow w.heap.size 46 3 l (if k=0 then 0 else if k=1 then H else if k=2 then H+I else H+I+N) (if k=0 then[] else if k=1 then J else if k=2 then J++M else J++M++O)/\Below w.heap.size w wr) (fun _ i _=>3-(intOf i).toNat)
   case atStart=>exact⟨0,by omega,rfl,HS.out.1,HS.out.2⟩
   case round=>
    obtain⟨k,hk,rfl,h,y⟩:=hrel;have ai:k=0\/k=1\/k=2\/k=3:=by omega
    have aT:=y.size;have d0:=cK y al c0;have d1:=cK y al c1;have d2:=cK y al c2;rcases ai with rfl|rfl|rfl|rfl
    ·simp at h;obtain⟨la,lc,rfl⟩:=own_slice h;have HC:=Hk (fun(j:Nat) (u:Value) (hj:J[j]? =some u)=>(y.cell (p:=(⟨g1,o1,none⟩:Addr).add j) (by rw[Addr.add_mid];exact aO)).trans (ar.out.1 j u hj));have K:=Hk (Ai h y);clear h y;go_wp2_with (at_builtin;refine wpList_append_own _ rfl _ _ 84 rfl w.heap.size 46 i0 (.agg #[.int .i64 0,.int .i64 0,.string ⟨#[]⟩]) 3 32 Tryz.underlying84 hi aa ae ag rfl (by decide) _ _ _ rfl K.out.1 ⟨g1,o1,none⟩ H k1 J rfl ?c0 HC.out ?c2 ?c3 ?c4 ?c5 ?_)
     case c0=>have:=HL.out;omega
     case c2=>exact ar.out.2
     case c3=>unfold maxLen;omega
     case c4=>omega
     case c5=>omega
     intro v' w5 D E _;have F:Below w.heap.size w w5:=K.out.2.grown E (by omega) (fun q hq=>(K.out.1.lt q hq).1);have U:=Hk (Ai D F);clear D E F;go_wp2;go_roundw
     case rel=>exact⟨1,by omega,by go_num,by simpa using U.out.1,U.out.2⟩
     case measure=>simp[intOf]
    ·simp at h;obtain⟨la,lc,rfl⟩:=own_slice h;have HC:=Hk (fun(j:Nat) (u:Value) (hj:M[j]? =some u)=>(y.cell (p:=(⟨g2,o2,none⟩:Addr).add j) (by rw[Addr.add_mid];exact aP)).trans (az.out.1 j u hj));have K:=Hk (Ai h y);clear h y;go_wp2_with (at_builtin;refine wpList_append_own _ rfl _ _ 84 rfl w.heap.size 46 i0 (.agg #[.int .i64 0,.int .i64 0,.string ⟨#[]⟩]) 3 32 Tryz.underlying84 hi aa ae ag rfl (by decide) _ _ _ rfl K.out.1 ⟨g2,o2,none⟩ I k2 M rfl ?c0 HC.out ?c2 ?c3 ?c4 ?c5 ?_)
     case c0=>have:=HL.out;omega
     case c2=>exact az.out.2
     case c3=>unfold maxLen;omega
     case c4=>omega
     case c5=>omega
     intro v' w5 D E _;have F:Below w.heap.size w w5:=K.out.2.grown E (by omega) (fun q hq=>(K.out.1.lt q hq).1);have U:=Hk (Ai D F);clear D E F;go_wp2;go_roundw
     case rel=>exact⟨2,by omega,by go_num,by simpa using U.out.1,U.out.2⟩
     case measure=>simp[intOf]
    ·simp at h;obtain⟨la,lc,rfl⟩:=own_slice h;have HC:=Hk (fun(j:Nat) (u:Value) (hj:O[j]? =some u)=>(y.cell (p:=(⟨g3,o3,none⟩:Addr).add j) (by rw[Addr.add_mid];exact aM)).trans (ax.out.1 j u hj));have K:=Hk (Ai h y);clear h y;go_wp2_with (at_builtin;refine wpList_append_own _ rfl _ _ 84 rfl w.heap.size 46 i0 (.agg #[.int .i64 0,.int .i64 0,.string ⟨#[]⟩]) 3 32 Tryz.underlying84 hi aa ae ag rfl (by decide) _ _ _ rfl K.out.1 ⟨g3,o3,none⟩ N k3 O rfl ?c0 HC.out ?c2 ?c3 ?c4 ?c5 ?_)
     case c0=>have:=HL.out;omega
     case c2=>exact ax.out.2
     case c3=>unfold maxLen;omega
     case c4=>omega
     case c5=>omega
     intro v' w5 D E _;have F:Below w.heap.size w w5:=K.out.2.grown E (by omega) (fun q hq=>(K.out.1.lt q hq).1);have U:=Hk (Ai D F);clear D E F;go_wp2;go_roundw
     case rel=>exact⟨3,by omega,by go_num,by simpa using U.out.1,U.out.2⟩
     case measure=>simp[intOf]
    ·have K:=Hk (Ai h y);obtain⟨la,lc,hl⟩:=own_slice h;subst hl;clear h y;go_wp2;go_ret;exact⟨_,rfl,by simpa using K.out.1,K.out.2⟩
theorem Ql4 (n:Nat) (w:World) (V:n<=1000):
 Calls Tryz.prog 192 #[.slice none 0 0,.int .i64 n] w fun e w'=>∃v,e=.returned v/\w'.ownsRow w.heap.size 64 2 v 0 []/\Below w.heap.size w w':=by
 obtain⟨J,M,F,H,D⟩:=info_parts Tryz.infoCol
 by_cases h0:n=0
 ·subst h0;go_enter Tryz.func192,Tryz.ntmps192;go_wp2;go_ret;exact⟨_,rfl,World.ownsRow_nil _ _ _ _,Below.refl _ _⟩
 ·have E:∀ty,(Builtin.append_ #[51,3] ty #[.slice none 0 0,.int .i64 n]).run Tryz.prog w=_:=fun ty=>Lib.run_append_nil_zeros w 51 3 ty 64 J (.agg #[.string ⟨#[]⟩,.int .i64 0]) .i64 .i64 Tryz.underlying51 Tryz.underlying3 M F n (by omega) (by rw[H];decide) (by omega) (by rw[D];omega)
  have y:=grownCap_ge w n 0 64;have h:=grownCap_le_maxLen w n 0 64 (by unfold maxLen;omega);obtain⟨G,I⟩:∃G,G=grownCap w n 0 64:=⟨_,rfl⟩;rw[<-I] at E y h;have hle':(G:Int)<=9223372036854775807:=by unfold maxLen at h;omega
  have N:¬((n:Int)<0):=by omega
  have O:(0:Int)<(n:Int):=by omega
  have K:=Hk (fun(W:World) (U:W.heap.size=w.heap.size)=>World.ownsRow_made (base:=w.heap.size) (e:=64) (size:=2) W (Builtin.zeroCells (Value.cells (.agg #[.string ⟨#[]⟩,.int .i64 0])) n++Builtin.zeroCells (Value.cells (.agg #[.string ⟨#[]⟩,.int .i64 0])) (G-n)) G (by omega) h (by rw[Array.size_append,size_zeroCells,size_zeroCells];simp[Value.cells];omega));clear I;go_enter Tryz.func192,Tryz.ntmps192;go_wp2_with (at_builtin;refine Lib.wpList_append_run _ rfl _ _ _ _ rfl _ _ rfl rfl _ _ (E _) ?_);go_ret;exact⟨_,rfl,K.out w.drew rfl,bel_box (Below.refl _ _).drew _⟩
theorem Qn7 (Z H I N g1 g2 g3 o1 o2 o3 k1 k2 k3:Nat) (J M O:List Value) (w:World) (al:Z<w.heap.size) (c0:w.cell? ⟨Z,0,none⟩=some (.slice (some ⟨g1,o1,none⟩) H k1)) (c1:w.cell? ⟨Z,1,none⟩=some (.slice (some ⟨g2,o2,none⟩) I k2)) (c2:w.cell? ⟨Z,2,none⟩=some (.slice (some ⟨g3,o3,none⟩) N k3)) (aO:g1<w.heap.size) (aB:J.length=H*2) (aE:∀j u,J[j]? =some u->w.cell? ((⟨g1,o1,none⟩:Addr).add j)=some u) (aU:H<=100) (V:∀u∈J,u.oneCell'=true) (aP:g2<w.heap.size) (aw:M.length=I*2) (ay:∀j u,M[j]? =some u->w.cell? ((⟨g2,o2,none⟩:Addr).add j)=some u) (aW:I<=100) (aD:∀u∈M,u.oneCell'=true) (aM:g3<w.heap.size) (aA:O.length=N*2) (aq:∀j u,O[j]? =some u->w.cell? ((⟨g3,o3,none⟩:Addr).add j)=some u) (aV:N<=100) (au:∀u∈O,u.oneCell'=true):
 Calls Tryz.prog 168 #[.slice (some ⟨Z,0,none⟩) 3 3] w fun e w'=>∃v,e=.returned v/\w'.ownsRow w.heap.size 64 2 v (H+I+N) (J++M++O)/\Below w.heap.size w w':=by
 obtain⟨i0,hi,aa,ae,ag⟩:=info_parts Tryz.infoCol;have HG:=Hk (Ql4 (H+I+N) w (by omega));have HL:=Hk (Ai aB (Ai aw aA));have ar:=Hk (Ai aE V);have az:=Hk (Ai ay aD);have ax:=Hk (Ai aq au);clear aB aw aA aE ay aq V aD au;go_enter Tryz.func168,Tryz.ntmps168;go_wp2;go_loopw [3,11] (fun s i wr=>wr=w/\∃k:Nat,k<=3/\i=.int .i64 k/\s=.int .i64 (((if k=0 then 0 else if k=1 then H else if k=2 then H+I else H+I+N):Nat):Int)) (fun _ i _=>3-(intOf i).toNat)
 case atStart=>exact⟨rfl,0,by omega,rfl,rfl⟩
 case round=>
  obtain⟨av,k,hk,rfl,rfl⟩:=hrel;have hww':=av.symm;subst hww';clear av;have ai:k=0\/k=1\/k=2\/k=3:=by omega
  rcases ai with rfl|rfl|rfl|rfl
  ·have ad:¬(((H:Nat):Int)<0):=by omega
   go_wp2
   all_goals go_roundw
   case rel=>exact⟨by first|trivial|rfl,1,by omega,by go_num,by first|(simp;done)|(simp;omega)⟩
   case measure=>simp[intOf]
  ·have ad:¬(((H+I:Nat):Int)<0):=by omega
   go_wp2
   all_goals go_roundw
   case rel=>exact⟨by first|trivial|rfl,2,by omega,by go_num,by first|(simp;done)|(simp;omega)⟩
   case measure=>simp[intOf]
  ·have ad:¬(((H+I+N:Nat):Int)<0):=by omega
   go_wp2
   all_goals go_roundw
   case rel=>exact⟨by first|trivial|rfl,3,by omega,by go_num,by first|(simp;done)|(simp;omega)⟩
   case measure=>simp[intOf]
  ·go_wp2_with (go_at_call 192;fail)
   try rw[show(H:Int)+(I:Int)+(N:Int)=((H+I+N:Nat):Int) by omega]
   refine HG.out.mono ?_;rintro e w1 ⟨v,rfl,V,aC⟩;have HS:=Hk (Ai V aC);clear V aC HG;go_wp2;go_loopw [6,27] (fun l i wr=>∃k:Nat,k<=3/\i=.int .i64 k/\wr.ownsRow w.heap.size 64 2 l (if k=0 then 0 else if k=1 then H else if k=2 then H+I else H+I+N) (if k=0 then[] else if k=1 then J else if k=2 then J++M else J++M++O)/\Below w.heap.size w wr) (fun _ i _=>3-(intOf i).toNat)
   case atStart=>exact⟨0,by omega,rfl,HS.out.1,HS.out.2⟩
   case round=>
    obtain⟨k,hk,rfl,h,y⟩:=hrel;have ai:k=0\/k=1\/k=2\/k=3:=by omega
    have aT:=y.size;have d0:=cK y al c0;have d1:=cK y al c1;have d2:=cK y al c2;rcases ai with rfl|rfl|rfl|rfl
    ·simp at h;obtain⟨la,lc,rfl⟩:=own_slice h;have HC:=Hk (fun(j:Nat) (u:Value) (hj:J[j]? =some u)=>(y.cell (p:=(⟨g1,o1,none⟩:Addr).add j) (by rw[Addr.add_mid];exact aO)).trans (ar.out.1 j u hj));have K:=Hk (Ai h y);clear h y;go_wp2_with (at_builtin;refine wpList_append_own _ rfl _ _ 51 rfl w.heap.size 64 i0 (.agg #[.string ⟨#[]⟩,.int .i64 0]) 2 24 Tryz.underlying51 hi aa ae ag rfl (by decide) _ _ _ rfl K.out.1 ⟨g1,o1,none⟩ H k1 J rfl ?c0 HC.out ?c2 ?c3 ?c4 ?c5 ?_)
     case c0=>have:=HL.out;omega
     case c2=>exact ar.out.2
     case c3=>unfold maxLen;omega
     case c4=>omega
     case c5=>omega
     intro v' w5 D E _;have F:Below w.heap.size w w5:=K.out.2.grown E (by omega) (fun q hq=>(K.out.1.lt q hq).1);have U:=Hk (Ai D F);clear D E F;go_wp2;go_roundw
     case rel=>exact⟨1,by omega,by go_num,by simpa using U.out.1,U.out.2⟩
     case measure=>simp[intOf]
    ·simp at h;obtain⟨la,lc,rfl⟩:=own_slice h;have HC:=Hk (fun(j:Nat) (u:Value) (hj:M[j]? =some u)=>(y.cell (p:=(⟨g2,o2,none⟩:Addr).add j) (by rw[Addr.add_mid];exact aP)).trans (az.out.1 j u hj));have K:=Hk (Ai h y);clear h y;go_wp2_with (at_builtin;refine wpList_append_own _ rfl _ _ 51 rfl w.heap.size 64 i0 (.agg #[.string ⟨#[]⟩,.int .i64 0]) 2 24 Tryz.underlying51 hi aa ae ag rfl (by decide) _ _ _ rfl K.out.1 ⟨g2,o2,none⟩ I k2 M rfl ?c0 HC.out ?c2 ?c3 ?c4 ?c5 ?_)
     case c0=>have:=HL.out;omega
     case c2=>exact az.out.2
     case c3=>unfold maxLen;omega
     case c4=>omega
     case c5=>omega
     intro v' w5 D E _;have F:Below w.heap.size w w5:=K.out.2.grown E (by omega) (fun q hq=>(K.out.1.lt q hq).1);have U:=Hk (Ai D F);clear D E F;go_wp2;go_roundw
     case rel=>exact⟨2,by omega,by go_num,by simpa using U.out.1,U.out.2⟩
     case measure=>simp[intOf]
    ·simp at h;obtain⟨la,lc,rfl⟩:=own_slice h;have HC:=Hk (fun(j:Nat) (u:Value) (hj:O[j]? =some u)=>(y.cell (p:=(⟨g3,o3,none⟩:Addr).add j) (by rw[Addr.add_mid];exact aM)).trans (ax.out.1 j u hj));have K:=Hk (Ai h y);clear h y;go_wp2_with (at_builtin;refine wpList_append_own _ rfl _ _ 51 rfl w.heap.size 64 i0 (.agg #[.string ⟨#[]⟩,.int .i64 0]) 2 24 Tryz.underlying51 hi aa ae ag rfl (by decide) _ _ _ rfl K.out.1 ⟨g3,o3,none⟩ N k3 O rfl ?c0 HC.out ?c2 ?c3 ?c4 ?c5 ?_)
     case c0=>have:=HL.out;omega
     case c2=>exact ax.out.2
     case c3=>unfold maxLen;omega
     case c4=>omega
     case c5=>omega
     intro v' w5 D E _;have F:Below w.heap.size w w5:=K.out.2.grown E (by omega) (fun q hq=>(K.out.1.lt q hq).1);have U:=Hk (Ai D F);clear D E F;go_wp2;go_roundw
     case rel=>exact⟨3,by omega,by go_num,by simpa using U.out.1,U.out.2⟩
     case measure=>simp[intOf]
    ·have K:=Hk (Ai h y);obtain⟨la,lc,hl⟩:=own_slice h;subst hl;clear h y;go_wp2;go_ret;exact⟨_,rfl,by simpa using K.out.1,K.out.2⟩
def Qb9 {α:Type} (x y:List α) (k:Nat):List α:=x++y.take k++y.drop (k+1)
theorem QgW {α:Type} (x y:List α) (k:Nat) (h:k<y.length):(Qb9 x y k).length+1=x.length+y.length:=by
 unfold Qb9;simp only[List.length_append,List.length_take,List.length_drop];omega
theorem QaS.take {w:World} {b o:Nat} {y:List Vl} (h:QaS w b o y) (k:Nat):QaS w b o (y.take k):=fun j D=>by
 have hj':j<y.length:=by rw[List.length_take] at D;omega
 have:=h j hj';rw[List.getElem_take];exact this
theorem QaS.drop {w:World} {b o:Nat} {y:List Vl} (h:QaS w b o y) (k:Nat):QaS w b (o+k*3) (y.drop k):=fun j D=>by
 have hj':k+j<y.length:=by rw[List.length_drop] at D;omega
 have:=h (k+j) hj';rw[List.getElem_drop];rw[show o+k*3+j*3=o+(k+j)*3 by omega];exact this
theorem Qau.drop {w:World} {b o:Nat} {y:List Cl} (h:Qau w b o y) (k:Nat):Qau w b (o+k*2) (y.drop k):=fun j D=>by
 have hj':k+j<y.length:=by rw[List.length_drop] at D;omega
 have:=h (k+j) hj';rw[List.getElem_drop];rw[show o+k*2+j*2=o+(k+j)*2 by omega];exact this
theorem QeO (x y:List Vl):Qag (x++y)=Qag x++Qag y:=by simp[Qag]
theorem QeP (x y:List Cl):Qal (x++y)=Qal x++Qal y:=by simp[Qal]
theorem Qcg (h:List Cl):(Qal h).length=h.length*2:=by
 induction h with
 |nil=>rfl
 |cons c r ih=>simp only[Qal,List.flatMap_cons,List.length_append,List.length_cons,List.length_nil] at ih⊢;omega
theorem QkG (K N U D F E at_:Nat) (x y:List Vl) (w:World) (ad:K<w.heap.size) (hx:QaS w K N x) (O:D<w.heap.size) (V:QaS w D F y) (aa:at_<y.length) (al:y.length<=E) (ap:x.length<=50) (aq:y.length<=50):
 Calls Tryz.prog 178 #[.slice (some ⟨K,N,none⟩) x.length U,.slice (some ⟨D,F,none⟩) y.length E,.int .i64 at_] w fun e w'=>∃v,e=.returned v/\w'.ownsRow w.heap.size 46 3 v (Qb9 x y at_).length (Qag (Qb9 x y at_))/\Below w.heap.size w w':=by
 have HC:=Hk (fun(W:World) (I:Below w.heap.size w W) (J:Nat) (Z:Option Addr) (c3:Nat) (aj:J<W.heap.size) (c0:W.cell? ⟨J,0,none⟩=some (.slice (some ⟨K,N,none⟩) x.length U)) (c1:W.cell? ⟨J,1,none⟩=some (.slice (some ⟨D,F,none⟩) at_ E)) (c2:W.cell? ⟨J,2,none⟩=some (.slice Z (y.length-(at_+1)) c3)) (hp:∃H,Z=some ⟨D,H,none⟩/\(H=F+(at_+1)*3\/y.length=at_+1))=>
  show Calls Tryz.prog 195 #[.slice (some ⟨J,0,none⟩) 3 3] W fun e w'=>∃v,e=.returned v/\w'.ownsRow W.heap.size 46 3 v (x.length+at_+(y.length-(at_+1))) (Qag x++Qag (y.take at_)++Qag (y.drop (at_+1)))/\Below W.heap.size W w' from by
   obtain⟨H,rfl,M⟩:=hp;exact Qn6 J x.length at_ (y.length-(at_+1)) K D D N F H U E c3 (Qag x) (Qag (y.take at_)) (Qag (y.drop (at_+1))) W aj c0 c1 c2 (by have:=I.size;omega) (QbY x) (QdX (hx.below I ad)) (by omega) (Qcn x) (by have:=I.size;omega) (by rw[QbY,List.length_take];omega) (QdX ((V.below I O).take at_)) (by omega) (Qcn _) (by have:=I.size;omega) (by rw[QbY,List.length_drop]) (by
    rcases M with M|M
    ·rw[M];exact QdX ((V.below I O).drop (at_+1))
    ·intro j u hj;rw[List.drop_eq_nil_of_le (by omega)] at hj;simp[Qag] at hj) (by omega) (Qcn _))
 have HP:=Hk (show∃H,(if E=at_+1 then some (⟨D,F,none⟩:Addr) else some ⟨D,F+(at_+1)*3,none⟩)=some ⟨D,H,none⟩/\(H=F+(at_+1)*3\/y.length=at_+1) by
  by_cases h:E=at_+1
  ·rw[if_pos h];exact⟨F,rfl,Or.inr (by omega)⟩
  ·rw[if_neg h];exact⟨_,rfl,Or.inl rfl⟩)
 have HE:=Hk (show Qag x++Qag (y.take at_)++Qag (y.drop (at_+1))=Qag (Qb9 x y at_)/\x.length+at_+(y.length-(at_+1))=(Qb9 x y at_).length by
  refine⟨by unfold Qb9;rw[QeO,QeO],?_⟩;have:=QgW x y at_ aa;omega)
 have h1:(at_:Int)<=(E:Int):=by omega
 have h2:(at_:Int)+1<=(y.length:Int):=by omega
 have M:(y.length:Int)<=(E:Int):=by omega
 have h4:(0:Int)<=(at_:Int):=by omega
 have h5:(0:Int)<=(at_:Int)+1:=by omega
 have h6:IntKind.i64.wrap ((at_:Int)+1)=(at_:Int)+1:=by rw[IntKind.wrap_i64];omega
 have h7:(at_:Int)+1<=(E:Int):=by omega
 have h8:((at_:Int)+1).toNat=at_+1:=by omega
 clear hx V;obtain⟨P3,ab⟩:∃q,(if E=at_+1 then some (⟨D,F,none⟩:Addr) else some ⟨D,F+(at_+1)*3,none⟩)=q:=⟨_,rfl⟩;rw[ab] at HP;go_enter Tryz.func178,Tryz.ntmps178;go_wp2_with fail
 go_region_held3 (fun _=>True) (trivial) (first|(go_at_call 195;refine(HC.out _ (bel_box (Below.refl _ _) _).drew w.heap.size P3 (E-(at_+1)) (by simp) (by simp) (by simp) (by simp) HP.out).mono ?_;rintro e w1 ⟨v1,rfl,ac,ag⟩))
 go_wp2;go_ret;exact⟨_,rfl,by rw[<-HE.out.1,<-HE.out.2];exact own_mono (by simp) ac,bel_then (bel_box (Below.refl _ _) _).drew ag⟩
theorem Qgy (K N U D F E at_:Nat) (x y:List Cl) (w:World) (ad:K<w.heap.size) (hx:Qau w K N x) (O:D<w.heap.size) (V:Qau w D F y) (aa:at_<y.length) (al:y.length<=E) (ap:x.length<=50) (aq:y.length<=50):
 Calls Tryz.prog 132 #[.slice (some ⟨K,N,none⟩) x.length U,.slice (some ⟨D,F,none⟩) y.length E,.int .i64 at_] w fun e w'=>∃v,e=.returned v/\w'.ownsRow w.heap.size 64 2 v (Qb9 x y at_).length (Qal (Qb9 x y at_))/\Below w.heap.size w w':=by
 have HC:=Hk (fun(W:World) (I:Below w.heap.size w W) (J:Nat) (Z:Option Addr) (c3:Nat) (aj:J<W.heap.size) (c0:W.cell? ⟨J,0,none⟩=some (.slice (some ⟨K,N,none⟩) x.length U)) (c1:W.cell? ⟨J,1,none⟩=some (.slice (some ⟨D,F,none⟩) at_ E)) (c2:W.cell? ⟨J,2,none⟩=some (.slice Z (y.length-(at_+1)) c3)) (hp:∃H,Z=some ⟨D,H,none⟩/\(H=F+(at_+1)*2\/y.length=at_+1))=>
  show Calls Tryz.prog 168 #[.slice (some ⟨J,0,none⟩) 3 3] W fun e w'=>∃v,e=.returned v/\w'.ownsRow W.heap.size 64 2 v (x.length+at_+(y.length-(at_+1))) (Qal x++Qal (y.take at_)++Qal (y.drop (at_+1)))/\Below W.heap.size W w' from by
   obtain⟨H,rfl,M⟩:=hp;exact Qn7 J x.length at_ (y.length-(at_+1)) K D D N F H U E c3 (Qal x) (Qal (y.take at_)) (Qal (y.drop (at_+1))) W aj c0 c1 c2 (by have:=I.size;omega) (Qcg x) (QdY (hx.below I ad)) (by omega) (Qco x) (by have:=I.size;omega) (by rw[Qcg,List.length_take];omega) (QdY ((V.below I O).take at_)) (by omega) (Qco _) (by have:=I.size;omega) (by rw[Qcg,List.length_drop]) (by
    rcases M with M|M
    ·rw[M];exact QdY ((V.below I O).drop (at_+1))
    ·intro j u hj;rw[List.drop_eq_nil_of_le (by omega)] at hj;simp[Qal] at hj) (by omega) (Qco _))
 have HP:=Hk (show∃H,(if E=at_+1 then some (⟨D,F,none⟩:Addr) else some ⟨D,F+(at_+1)*2,none⟩)=some ⟨D,H,none⟩/\(H=F+(at_+1)*2\/y.length=at_+1) by
  by_cases h:E=at_+1
  ·rw[if_pos h];exact⟨F,rfl,Or.inr (by omega)⟩
  ·rw[if_neg h];exact⟨_,rfl,Or.inl rfl⟩)
 have HE:=Hk (show Qal x++Qal (y.take at_)++Qal (y.drop (at_+1))=Qal (Qb9 x y at_)/\x.length+at_+(y.length-(at_+1))=(Qb9 x y at_).length by
  refine⟨by unfold Qb9;rw[QeP,QeP],?_⟩;have:=QgW x y at_ aa;omega)
 have h1:(at_:Int)<=(E:Int):=by omega
 have h2:(at_:Int)+1<=(y.length:Int):=by omega
 have M:(y.length:Int)<=(E:Int):=by omega
 have h4:(0:Int)<=(at_:Int):=by omega
 have h5:(0:Int)<=(at_:Int)+1:=by omega
 have h6:IntKind.i64.wrap ((at_:Int)+1)=(at_:Int)+1:=by rw[IntKind.wrap_i64];omega
 have h7:(at_:Int)+1<=(E:Int):=by omega
 have h8:((at_:Int)+1).toNat=at_+1:=by omega
 clear hx V;obtain⟨P3,ab⟩:∃q,(if E=at_+1 then some (⟨D,F,none⟩:Addr) else some ⟨D,F+(at_+1)*2,none⟩)=q:=⟨_,rfl⟩;rw[ab] at HP;go_enter Tryz.func132,Tryz.ntmps132;go_wp2_with fail
 go_region_held3 (fun _=>True) (trivial) (first|(go_at_call 168;refine(HC.out _ (bel_box (Below.refl _ _) _).drew w.heap.size P3 (E-(at_+1)) (by simp) (by simp) (by simp) (by simp) HP.out).mono ?_;rintro e w1 ⟨v1,rfl,ac,ag⟩))
 go_wp2;go_ret;exact⟨_,rfl,by rw[<-HE.out.1,<-HE.out.2];exact own_mono (by simp) ac,bel_then (bel_box (Below.refl _ _) _).drew ag⟩
end Go.Proofs.YtjlgejennghhlaaGreatDoor
