import Derived.Deep.RegionHeld3
import Derived.Test.YtjlgejennghhlaaGreatDoorQ01
import Derived.Test.YtjlgejennghhlaaGreatDoorQ21
set_option linter.unusedSimpArgs false
set_option linter.unusedVariables false
set_option linter.unusedSectionVars false
set_option maxRecDepth 1000000
set_option maxHeartbeats 16000000
namespace Go.Proofs.YtjlgejennghhlaaGreatDoor
open Go.RowKit
theorem QlP (n:Nat) (w:World) (Z:n<=1000):
 Calls Tryz.prog 206 #[.slice none 0 0,.int .i64 n] w fun e w'=>∃v,e=.returned v/\w'.ownsRow w.heap.size 46 3 v 0 []/\Below w.heap.size w w':=by
 obtain⟨K,N,H,I,D⟩:=info_parts Tryz.infoVal
 by_cases h0:n=0
 ·subst h0;go_enter Tryz.func206,Tryz.ntmps206;go_wp2;go_ret;exact⟨_,rfl,World.ownsRow_nil _ _ _ _,Below.refl _ _⟩
 ·have F:∀ty,(Builtin.append_ #[84,3] ty #[.slice none 0 0,.int .i64 n]).run Tryz.prog w=_:=fun ty=>Lib.run_append_nil_zeros w 84 3 ty 46 K (.agg #[.int .i64 0,.int .i64 0,.string ⟨#[]⟩]) .i64 .i64 Tryz.underlying84 Tryz.underlying3 N H n (by omega) (by rw[I];decide) (by omega) (by rw[D];omega)
  have y:=grownCap_ge w n 0 46;have h:=grownCap_le_maxLen w n 0 46 (by unfold maxLen;omega);obtain⟨G,J⟩:∃G,G=grownCap w n 0 46:=⟨_,rfl⟩;rw[<-J] at F y h;have hle':(G:Int)<=9223372036854775807:=by unfold maxLen at h;omega
  have O:¬((n:Int)<0):=by omega
  have U:(0:Int)<(n:Int):=by omega
  have M:=Hk (fun(W:World) (V:W.heap.size=w.heap.size)=>World.ownsRow_made (base:=w.heap.size) (e:=46) (size:=3) W (Builtin.zeroCells (Value.cells (.agg #[.int .i64 0,.int .i64 0,.string ⟨#[]⟩])) n++Builtin.zeroCells (Value.cells (.agg #[.int .i64 0,.int .i64 0,.string ⟨#[]⟩])) (G-n)) G (by omega) h (by rw[Array.size_append,size_zeroCells,size_zeroCells];simp[Value.cells];omega));clear J;go_enter Tryz.func206,Tryz.ntmps206;go_wp2_with (at_builtin;refine Lib.wpList_append_run _ rfl _ _ _ _ rfl _ _ rfl rfl _ _ (F _) ?_);go_ret;exact⟨_,rfl,M.out w.drew rfl,bel_box (Below.refl _ _).drew _⟩
theorem QnX (lb I J O g1 g2 g3 o1 o2 o3 k1 k2 k3:Nat) (K N U:List Value) (w:World) (am:lb<w.heap.size) (c0:w.cell? ⟨lb,0,none⟩=some (.slice (some ⟨g1,o1,none⟩) I k1)) (c1:w.cell? ⟨lb,1,none⟩=some (.slice (some ⟨g2,o2,none⟩) J k2)) (c2:w.cell? ⟨lb,2,none⟩=some (.slice (some ⟨g3,o3,none⟩) O k3)) (aP:g1<w.heap.size) (aC:K.length=I*3) (aF:∀j u,K[j]? =some u->w.cell? ((⟨g1,o1,none⟩:Addr).add j)=some u) (aV:I<=100) (Z:∀u∈K,u.oneCell'=true) (aQ:g2<w.heap.size) (ax:N.length=J*3) (az:∀j u,N[j]? =some u->w.cell? ((⟨g2,o2,none⟩:Addr).add j)=some u) (aX:J<=100) (aE:∀u∈N,u.oneCell'=true) (aN:g3<w.heap.size) (aB:U.length=O*3) (ar:∀j u,U[j]? =some u->w.cell? ((⟨g3,o3,none⟩:Addr).add j)=some u) (aW:O<=100) (av:∀u∈U,u.oneCell'=true):
 Calls Tryz.prog 195 #[.slice (some ⟨lb,0,none⟩) 3 3] w fun e w'=>∃v,e=.returned v/\w'.ownsRow w.heap.size 46 3 v (I+J+O) (K++N++U)/\Below w.heap.size w w':=by
 obtain⟨i0,hi,ab,af,ah⟩:=info_parts Tryz.infoVal;have HG:=Hk (QlP (I+J+O) w (by omega));have HL:=Hk (Ai aC (Ai ax aB));have au:=Hk (Ai aF Z);have aA:=Hk (Ai az aE);have ay:=Hk (Ai ar av);clear aC ax aB aF az ar Z aE av;go_enter Tryz.func195,Tryz.ntmps195;go_wp2;go_loopw [3,11] (fun s i wr=>wr=w/\∃k:Nat,k<=3/\i=.int .i64 k/\s=.int .i64 (((if k=0 then 0 else if k=1 then I else if k=2 then I+J else I+J+O):Nat):Int)) (fun _ i _=>3-(intOf i).toNat)
 case atStart=>exact⟨rfl,0,by omega,rfl,rfl⟩
 case round=>
  obtain⟨aw,k,hk,rfl,rfl⟩:=hrel;have hww':=aw.symm;subst hww';clear aw;have aj:k=0\/k=1\/k=2\/k=3:=by omega
  rcases aj with rfl|rfl|rfl|rfl
  ·have ae:¬(((I:Nat):Int)<0):=by omega
   go_wp2
   all_goals go_roundw
   case rel=>exact⟨by first|trivial|rfl,1,by omega,by go_num,by first|(simp;done)|(simp;omega)⟩
   case measure=>simp[intOf]
  ·have ae:¬(((I+J:Nat):Int)<0):=by omega
   go_wp2
   all_goals go_roundw
   case rel=>exact⟨by first|trivial|rfl,2,by omega,by go_num,by first|(simp;done)|(simp;omega)⟩
   case measure=>simp[intOf]
  ·have ae:¬(((I+J+O:Nat):Int)<0):=by omega
   go_wp2
   all_goals go_roundw
   case rel=>exact⟨by first|trivial|rfl,3,by omega,by go_num,by first|(simp;done)|(simp;omega)⟩
   case measure=>simp[intOf]
  ·go_wp2_with (go_at_call 206;fail)
   try rw[show(I:Int)+(J:Int)+(O:Int)=((I+J+O:Nat):Int) by omega]
   refine HG.out.mono ?_;rintro e w1 ⟨v,rfl,Z,aD⟩;have HS:=Hk (Ai Z aD);clear Z aD HG;go_wp2;go_loopw [6,27] (fun l i wr=>∃k:Nat,k<=3/\i=.int .i64 k/\wr.ownsRow w.heap.size 46 3 l (if k=0 then 0 else if k=1 then I else if k=2 then I+J else I+J+O) (if k=0 then[] else if k=1 then K else if k=2 then K++N else K++N++U)/\Below w.heap.size w wr) (fun _ i _=>3-(intOf i).toNat)
   case atStart=>exact⟨0,by omega,rfl,HS.out.1,HS.out.2⟩
   case round=>
    obtain⟨k,hk,rfl,h,y⟩:=hrel;have aj:k=0\/k=1\/k=2\/k=3:=by omega
    have aU:=y.size;have d0:=cK y am c0;have d1:=cK y am c1;have d2:=cK y am c2;rcases aj with rfl|rfl|rfl|rfl
    ·simp at h;obtain⟨la,lc,rfl⟩:=own_slice h;have HC:=Hk (fun(j:Nat) (u:Value) (hj:K[j]? =some u)=>(y.cell (p:=(⟨g1,o1,none⟩:Addr).add j) (by rw[Addr.add_mid];exact aP)).trans (au.out.1 j u hj));have M:=Hk (Ai h y);clear h y;go_wp2_with (at_builtin;refine wpList_append_own _ rfl _ _ 84 rfl w.heap.size 46 i0 (.agg #[.int .i64 0,.int .i64 0,.string ⟨#[]⟩]) 3 32 Tryz.underlying84 hi ab af ah rfl (by decide) _ _ _ rfl M.out.1 ⟨g1,o1,none⟩ I k1 K rfl ?c0 HC.out ?c2 ?c3 ?c4 ?c5 ?_)
     case c0=>have:=HL.out;omega
     case c2=>exact au.out.2
     case c3=>unfold maxLen;omega
     case c4=>omega
     case c5=>omega
     intro v' w5 D F _;have H:Below w.heap.size w w5:=M.out.2.grown F (by omega) (fun q hq=>(M.out.1.lt q hq).1);have V:=Hk (Ai D H);clear D F H;go_wp2;go_roundw
     case rel=>exact⟨1,by omega,by go_num,by simpa using V.out.1,V.out.2⟩
     case measure=>simp[intOf]
    ·simp at h;obtain⟨la,lc,rfl⟩:=own_slice h;have HC:=Hk (fun(j:Nat) (u:Value) (hj:N[j]? =some u)=>(y.cell (p:=(⟨g2,o2,none⟩:Addr).add j) (by rw[Addr.add_mid];exact aQ)).trans (aA.out.1 j u hj));have M:=Hk (Ai h y);clear h y;go_wp2_with (at_builtin;refine wpList_append_own _ rfl _ _ 84 rfl w.heap.size 46 i0 (.agg #[.int .i64 0,.int .i64 0,.string ⟨#[]⟩]) 3 32 Tryz.underlying84 hi ab af ah rfl (by decide) _ _ _ rfl M.out.1 ⟨g2,o2,none⟩ J k2 N rfl ?c0 HC.out ?c2 ?c3 ?c4 ?c5 ?_)
     case c0=>have:=HL.out;omega
     case c2=>exact aA.out.2
     case c3=>unfold maxLen;omega
     case c4=>omega
     case c5=>omega
     intro v' w5 D F _;have H:Below w.heap.size w w5:=M.out.2.grown F (by omega) (fun q hq=>(M.out.1.lt q hq).1);have V:=Hk (Ai D H);clear D F H;go_wp2;go_roundw
     case rel=>exact⟨2,by omega,by go_num,by simpa using V.out.1,V.out.2⟩
     case measure=>simp[intOf]
    ·simp at h;obtain⟨la,lc,rfl⟩:=own_slice h;have HC:=Hk (fun(j:Nat) (u:Value) (hj:U[j]? =some u)=>(y.cell (p:=(⟨g3,o3,none⟩:Addr).add j) (by rw[Addr.add_mid];exact aN)).trans (ay.out.1 j u hj));have M:=Hk (Ai h y);clear h y;go_wp2_with (at_builtin;refine wpList_append_own _ rfl _ _ 84 rfl w.heap.size 46 i0 (.agg #[.int .i64 0,.int .i64 0,.string ⟨#[]⟩]) 3 32 Tryz.underlying84 hi ab af ah rfl (by decide) _ _ _ rfl M.out.1 ⟨g3,o3,none⟩ O k3 U rfl ?c0 HC.out ?c2 ?c3 ?c4 ?c5 ?_)
     case c0=>have:=HL.out;omega
     case c2=>exact ay.out.2
     case c3=>unfold maxLen;omega
     case c4=>omega
     case c5=>omega
     intro v' w5 D F _;have H:Below w.heap.size w w5:=M.out.2.grown F (by omega) (fun q hq=>(M.out.1.lt q hq).1);have V:=Hk (Ai D H);clear D F H;go_wp2;go_roundw
     case rel=>exact⟨3,by omega,by go_num,by simpa using V.out.1,V.out.2⟩
     case measure=>simp[intOf]
    ·have M:=Hk (Ai h y);obtain⟨la,lc,hl⟩:=own_slice h;subst hl;clear h y;go_wp2;go_ret;exact⟨_,rfl,by simpa using M.out.1,M.out.2⟩
theorem QlQ (n:Nat) (w:World) (Z:n<=1000):
 Calls Tryz.prog 192 #[.slice none 0 0,.int .i64 n] w fun e w'=>∃v,e=.returned v/\w'.ownsRow w.heap.size 64 2 v 0 []/\Below w.heap.size w w':=by
 obtain⟨K,N,H,I,D⟩:=info_parts Tryz.infoCol
 by_cases h0:n=0
 ·subst h0;go_enter Tryz.func192,Tryz.ntmps192;go_wp2;go_ret;exact⟨_,rfl,World.ownsRow_nil _ _ _ _,Below.refl _ _⟩
 ·have F:∀ty,(Builtin.append_ #[51,3] ty #[.slice none 0 0,.int .i64 n]).run Tryz.prog w=_:=fun ty=>Lib.run_append_nil_zeros w 51 3 ty 64 K (.agg #[.string ⟨#[]⟩,.int .i64 0]) .i64 .i64 Tryz.underlying51 Tryz.underlying3 N H n (by omega) (by rw[I];decide) (by omega) (by rw[D];omega)
  have y:=grownCap_ge w n 0 64;have h:=grownCap_le_maxLen w n 0 64 (by unfold maxLen;omega);obtain⟨G,J⟩:∃G,G=grownCap w n 0 64:=⟨_,rfl⟩;rw[<-J] at F y h;have hle':(G:Int)<=9223372036854775807:=by unfold maxLen at h;omega
  have O:¬((n:Int)<0):=by omega
  have U:(0:Int)<(n:Int):=by omega
  have M:=Hk (fun(W:World) (V:W.heap.size=w.heap.size)=>World.ownsRow_made (base:=w.heap.size) (e:=64) (size:=2) W (Builtin.zeroCells (Value.cells (.agg #[.string ⟨#[]⟩,.int .i64 0])) n++Builtin.zeroCells (Value.cells (.agg #[.string ⟨#[]⟩,.int .i64 0])) (G-n)) G (by omega) h (by rw[Array.size_append,size_zeroCells,size_zeroCells];simp[Value.cells];omega));clear J;go_enter Tryz.func192,Tryz.ntmps192;go_wp2_with (at_builtin;refine Lib.wpList_append_run _ rfl _ _ _ _ rfl _ _ rfl rfl _ _ (F _) ?_);go_ret;exact⟨_,rfl,M.out w.drew rfl,bel_box (Below.refl _ _).drew _⟩
theorem QnY (lb I J O g1 g2 g3 o1 o2 o3 k1 k2 k3:Nat) (K N U:List Value) (w:World) (am:lb<w.heap.size) (c0:w.cell? ⟨lb,0,none⟩=some (.slice (some ⟨g1,o1,none⟩) I k1)) (c1:w.cell? ⟨lb,1,none⟩=some (.slice (some ⟨g2,o2,none⟩) J k2)) (c2:w.cell? ⟨lb,2,none⟩=some (.slice (some ⟨g3,o3,none⟩) O k3)) (aP:g1<w.heap.size) (aC:K.length=I*2) (aF:∀j u,K[j]? =some u->w.cell? ((⟨g1,o1,none⟩:Addr).add j)=some u) (aV:I<=100) (Z:∀u∈K,u.oneCell'=true) (aQ:g2<w.heap.size) (ax:N.length=J*2) (az:∀j u,N[j]? =some u->w.cell? ((⟨g2,o2,none⟩:Addr).add j)=some u) (aX:J<=100) (aE:∀u∈N,u.oneCell'=true) (aN:g3<w.heap.size) (aB:U.length=O*2) (ar:∀j u,U[j]? =some u->w.cell? ((⟨g3,o3,none⟩:Addr).add j)=some u) (aW:O<=100) (av:∀u∈U,u.oneCell'=true):
 Calls Tryz.prog 168 #[.slice (some ⟨lb,0,none⟩) 3 3] w fun e w'=>∃v,e=.returned v/\w'.ownsRow w.heap.size 64 2 v (I+J+O) (K++N++U)/\Below w.heap.size w w':=by
 obtain⟨i0,hi,ab,af,ah⟩:=info_parts Tryz.infoCol;have HG:=Hk (QlQ (I+J+O) w (by omega));have HL:=Hk (Ai aC (Ai ax aB));have au:=Hk (Ai aF Z);have aA:=Hk (Ai az aE);have ay:=Hk (Ai ar av);clear aC ax aB aF az ar Z aE av;go_enter Tryz.func168,Tryz.ntmps168;go_wp2;go_loopw [3,11] (fun s i wr=>wr=w/\∃k:Nat,k<=3/\i=.int .i64 k/\s=.int .i64 (((if k=0 then 0 else if k=1 then I else if k=2 then I+J else I+J+O):Nat):Int)) (fun _ i _=>3-(intOf i).toNat)
 case atStart=>exact⟨rfl,0,by omega,rfl,rfl⟩
 case round=>
  obtain⟨aw,k,hk,rfl,rfl⟩:=hrel;have hww':=aw.symm;subst hww';clear aw;have aj:k=0\/k=1\/k=2\/k=3:=by omega
  rcases aj with rfl|rfl|rfl|rfl
  ·have ae:¬(((I:Nat):Int)<0):=by omega
   go_wp2
   all_goals go_roundw
   case rel=>exact⟨by first|trivial|rfl,1,by omega,by go_num,by first|(simp;done)|(simp;omega)⟩
   case measure=>simp[intOf]
  ·have ae:¬(((I+J:Nat):Int)<0):=by omega
   go_wp2
   all_goals go_roundw
   case rel=>exact⟨by first|trivial|rfl,2,by omega,by go_num,by first|(simp;done)|(simp;omega)⟩
   case measure=>simp[intOf]
  ·have ae:¬(((I+J+O:Nat):Int)<0):=by omega
   go_wp2
   all_goals go_roundw
   case rel=>exact⟨by first|trivial|rfl,3,by omega,by go_num,by first|(simp;done)|(simp;omega)⟩
   case measure=>simp[intOf]
  ·go_wp2_with (go_at_call 192;fail)
   try rw[show(I:Int)+(J:Int)+(O:Int)=((I+J+O:Nat):Int) by omega]
   refine HG.out.mono ?_;rintro e w1 ⟨v,rfl,Z,aD⟩;have HS:=Hk (Ai Z aD);clear Z aD HG;go_wp2;go_loopw [6,27] (fun l i wr=>∃k:Nat,k<=3/\i=.int .i64 k/\wr.ownsRow w.heap.size 64 2 l (if k=0 then 0 else if k=1 then I else if k=2 then I+J else I+J+O) (if k=0 then[] else if k=1 then K else if k=2 then K++N else K++N++U)/\Below w.heap.size w wr) (fun _ i _=>3-(intOf i).toNat)
   case atStart=>exact⟨0,by omega,rfl,HS.out.1,HS.out.2⟩
   case round=>
    obtain⟨k,hk,rfl,h,y⟩:=hrel;have aj:k=0\/k=1\/k=2\/k=3:=by omega
    have aU:=y.size;have d0:=cK y am c0;have d1:=cK y am c1;have d2:=cK y am c2;rcases aj with rfl|rfl|rfl|rfl
    ·simp at h;obtain⟨la,lc,rfl⟩:=own_slice h;have HC:=Hk (fun(j:Nat) (u:Value) (hj:K[j]? =some u)=>(y.cell (p:=(⟨g1,o1,none⟩:Addr).add j) (by rw[Addr.add_mid];exact aP)).trans (au.out.1 j u hj));have M:=Hk (Ai h y);clear h y;go_wp2_with (at_builtin;refine wpList_append_own _ rfl _ _ 51 rfl w.heap.size 64 i0 (.agg #[.string ⟨#[]⟩,.int .i64 0]) 2 24 Tryz.underlying51 hi ab af ah rfl (by decide) _ _ _ rfl M.out.1 ⟨g1,o1,none⟩ I k1 K rfl ?c0 HC.out ?c2 ?c3 ?c4 ?c5 ?_)
     case c0=>have:=HL.out;omega
     case c2=>exact au.out.2
     case c3=>unfold maxLen;omega
     case c4=>omega
     case c5=>omega
     intro v' w5 D F _;have H:Below w.heap.size w w5:=M.out.2.grown F (by omega) (fun q hq=>(M.out.1.lt q hq).1);have V:=Hk (Ai D H);clear D F H;go_wp2;go_roundw
     case rel=>exact⟨1,by omega,by go_num,by simpa using V.out.1,V.out.2⟩
     case measure=>simp[intOf]
    ·simp at h;obtain⟨la,lc,rfl⟩:=own_slice h;have HC:=Hk (fun(j:Nat) (u:Value) (hj:N[j]? =some u)=>(y.cell (p:=(⟨g2,o2,none⟩:Addr).add j) (by rw[Addr.add_mid];exact aQ)).trans (aA.out.1 j u hj));have M:=Hk (Ai h y);clear h y;go_wp2_with (at_builtin;refine wpList_append_own _ rfl _ _ 51 rfl w.heap.size 64 i0 (.agg #[.string ⟨#[]⟩,.int .i64 0]) 2 24 Tryz.underlying51 hi ab af ah rfl (by decide) _ _ _ rfl M.out.1 ⟨g2,o2,none⟩ J k2 N rfl ?c0 HC.out ?c2 ?c3 ?c4 ?c5 ?_)
     case c0=>have:=HL.out;omega
     case c2=>exact aA.out.2
     case c3=>unfold maxLen;omega
     case c4=>omega
     case c5=>omega
     intro v' w5 D F _;have H:Below w.heap.size w w5:=M.out.2.grown F (by omega) (fun q hq=>(M.out.1.lt q hq).1);have V:=Hk (Ai D H);clear D F H;go_wp2;go_roundw
     case rel=>exact⟨2,by omega,by go_num,by simpa using V.out.1,V.out.2⟩
     case measure=>simp[intOf]
    ·simp at h;obtain⟨la,lc,rfl⟩:=own_slice h;have HC:=Hk (fun(j:Nat) (u:Value) (hj:U[j]? =some u)=>(y.cell (p:=(⟨g3,o3,none⟩:Addr).add j) (by rw[Addr.add_mid];exact aN)).trans (ay.out.1 j u hj));have M:=Hk (Ai h y);clear h y;go_wp2_with (at_builtin;refine wpList_append_own _ rfl _ _ 51 rfl w.heap.size 64 i0 (.agg #[.string ⟨#[]⟩,.int .i64 0]) 2 24 Tryz.underlying51 hi ab af ah rfl (by decide) _ _ _ rfl M.out.1 ⟨g3,o3,none⟩ O k3 U rfl ?c0 HC.out ?c2 ?c3 ?c4 ?c5 ?_)
     case c0=>have:=HL.out;omega
     case c2=>exact ay.out.2
     case c3=>unfold maxLen;omega
     case c4=>omega
     case c5=>omega
     intro v' w5 D F _;have H:Below w.heap.size w w5:=M.out.2.grown F (by omega) (fun q hq=>(M.out.1.lt q hq).1);have V:=Hk (Ai D H);clear D F H;go_wp2;go_roundw
     case rel=>exact⟨3,by omega,by go_num,by simpa using V.out.1,V.out.2⟩
     case measure=>simp[intOf]
    ·have M:=Hk (Ai h y);obtain⟨la,lc,hl⟩:=own_slice h;subst hl;clear h y;go_wp2;go_ret;exact⟨_,rfl,by simpa using M.out.1,M.out.2⟩
def Qb7 {α:Type} (x y:List α) (k:Nat):List α:=x++y.take k++y.drop (k+1)
theorem QgR {α:Type} (x y:List α) (k:Nat) (h:k<y.length):(Qb7 x y k).length+1=x.length+y.length:=by
 unfold Qb7;simp only[List.length_append,List.length_take,List.length_drop];omega
theorem QaR.take {w:World} {b o:Nat} {y:List Vl} (h:QaR w b o y) (k:Nat):QaR w b o (y.take k):=fun j D=>by
 have hj':j<y.length:=by rw[List.length_take] at D;omega
 have:=h j hj';rw[List.getElem_take];exact this
theorem QaR.drop {w:World} {b o:Nat} {y:List Vl} (h:QaR w b o y) (k:Nat):QaR w b (o+k*3) (y.drop k):=fun j D=>by
 have hj':k+j<y.length:=by rw[List.length_drop] at D;omega
 have:=h (k+j) hj';rw[List.getElem_drop];rw[show o+k*3+j*3=o+(k+j)*3 by omega];exact this
theorem Qau.drop {w:World} {b o:Nat} {y:List Cl} (h:Qau w b o y) (k:Nat):Qau w b (o+k*2) (y.drop k):=fun j D=>by
 have hj':k+j<y.length:=by rw[List.length_drop] at D;omega
 have:=h (k+j) hj';rw[List.getElem_drop];rw[show o+k*2+j*2=o+(k+j)*2 by omega];exact this
theorem QeL (x y:List Vl):Qag (x++y)=Qag x++Qag y:=by simp[Qag]
theorem QeM (x y:List Cl):Qak (x++y)=Qak x++Qak y:=by simp[Qak]
theorem Qcf (h:List Cl):(Qak h).length=h.length*2:=by
 induction h with
 |nil=>rfl
 |cons c r ih=>simp only[Qak,List.flatMap_cons,List.length_append,List.length_cons,List.length_nil] at ih⊢;omega
theorem Qku (M O V D H F at_:Nat) (x y:List Vl) (w:World) (ae:M<w.heap.size) (hx:QaR w M O x) (U:D<w.heap.size) (Z:QaR w D H y) (ab:at_<y.length) (am:y.length<=F) (aq:x.length<=50) (ar:y.length<=50):
 Calls Tryz.prog 178 #[.slice (some ⟨M,O,none⟩) x.length V,.slice (some ⟨D,H,none⟩) y.length F,.int .i64 at_] w fun e w'=>∃v,e=.returned v/\w'.ownsRow w.heap.size 46 3 v (Qb7 x y at_).length (Qag (Qb7 x y at_))/\Below w.heap.size w w':=by
 have HC:=Hk (fun(W:World) (J:Below w.heap.size w W) (K:Nat) (p3:Option Addr) (c3:Nat) (ak:K<W.heap.size) (c0:W.cell? ⟨K,0,none⟩=some (.slice (some ⟨M,O,none⟩) x.length V)) (c1:W.cell? ⟨K,1,none⟩=some (.slice (some ⟨D,H,none⟩) at_ F)) (c2:W.cell? ⟨K,2,none⟩=some (.slice p3 (y.length-(at_+1)) c3)) (hp:∃I,p3=some ⟨D,I,none⟩/\(I=H+(at_+1)*3\/y.length=at_+1))=>
  show Calls Tryz.prog 195 #[.slice (some ⟨K,0,none⟩) 3 3] W fun e w'=>∃v,e=.returned v/\w'.ownsRow W.heap.size 46 3 v (x.length+at_+(y.length-(at_+1))) (Qag x++Qag (y.take at_)++Qag (y.drop (at_+1)))/\Below W.heap.size W w' from by
   obtain⟨I,rfl,N⟩:=hp;exact QnX K x.length at_ (y.length-(at_+1)) M D D O H I V F c3 (Qag x) (Qag (y.take at_)) (Qag (y.drop (at_+1))) W ak c0 c1 c2 (by have:=J.size;omega) (QbU x) (QdR (hx.below J ae)) (by omega) (Qcm x) (by have:=J.size;omega) (by rw[QbU,List.length_take];omega) (QdR ((Z.below J U).take at_)) (by omega) (Qcm _) (by have:=J.size;omega) (by rw[QbU,List.length_drop]) (by
    rcases N with N|N
    ·rw[N];exact QdR ((Z.below J U).drop (at_+1))
    ·intro j u hj;rw[List.drop_eq_nil_of_le (by omega)] at hj;simp[Qag] at hj) (by omega) (Qcm _))
 have HP:=Hk (show∃I,(if F=at_+1 then some (⟨D,H,none⟩:Addr) else some ⟨D,H+(at_+1)*3,none⟩)=some ⟨D,I,none⟩/\(I=H+(at_+1)*3\/y.length=at_+1) by
  by_cases h:F=at_+1
  ·rw[if_pos h];exact⟨H,rfl,Or.inr (by omega)⟩
  ·rw[if_neg h];exact⟨_,rfl,Or.inl rfl⟩)
 have HE:=Hk (show Qag x++Qag (y.take at_)++Qag (y.drop (at_+1))=Qag (Qb7 x y at_)/\x.length+at_+(y.length-(at_+1))=(Qb7 x y at_).length by
  refine⟨by unfold Qb7;rw[QeL,QeL],?_⟩;have:=QgR x y at_ ab;omega)
 have h1:(at_:Int)<=(F:Int):=by omega
 have h2:(at_:Int)+1<=(y.length:Int):=by omega
 have N:(y.length:Int)<=(F:Int):=by omega
 have h4:(0:Int)<=(at_:Int):=by omega
 have h5:(0:Int)<=(at_:Int)+1:=by omega
 have h6:IntKind.i64.wrap ((at_:Int)+1)=(at_:Int)+1:=by rw[IntKind.wrap_i64];omega
 have h7:(at_:Int)+1<=(F:Int):=by omega
 have h8:((at_:Int)+1).toNat=at_+1:=by omega
 clear hx Z;obtain⟨P3,ac⟩:∃q,(if F=at_+1 then some (⟨D,H,none⟩:Addr) else some ⟨D,H+(at_+1)*3,none⟩)=q:=⟨_,rfl⟩;rw[ac] at HP;go_enter Tryz.func178,Tryz.ntmps178;go_wp2_with fail
 go_region_held3 (fun _=>True) (trivial) (first|(go_at_call 195;refine(HC.out _ (bel_box (Below.refl _ _) _).drew w.heap.size P3 (F-(at_+1)) (by simp) (by simp) (by simp) (by simp) HP.out).mono ?_;rintro e w1 ⟨v1,rfl,ad,ah⟩))
 go_wp2;go_ret;exact⟨_,rfl,by rw[<-HE.out.1,<-HE.out.2];exact own_mono (by simp) ad,bel_then (bel_box (Below.refl _ _) _).drew ah⟩
theorem Qgv (M O V D H F at_:Nat) (x y:List Cl) (w:World) (ae:M<w.heap.size) (hx:Qau w M O x) (U:D<w.heap.size) (Z:Qau w D H y) (ab:at_<y.length) (am:y.length<=F) (aq:x.length<=50) (ar:y.length<=50):
 Calls Tryz.prog 132 #[.slice (some ⟨M,O,none⟩) x.length V,.slice (some ⟨D,H,none⟩) y.length F,.int .i64 at_] w fun e w'=>∃v,e=.returned v/\w'.ownsRow w.heap.size 64 2 v (Qb7 x y at_).length (Qak (Qb7 x y at_))/\Below w.heap.size w w':=by
 have HC:=Hk (fun(W:World) (J:Below w.heap.size w W) (K:Nat) (p3:Option Addr) (c3:Nat) (ak:K<W.heap.size) (c0:W.cell? ⟨K,0,none⟩=some (.slice (some ⟨M,O,none⟩) x.length V)) (c1:W.cell? ⟨K,1,none⟩=some (.slice (some ⟨D,H,none⟩) at_ F)) (c2:W.cell? ⟨K,2,none⟩=some (.slice p3 (y.length-(at_+1)) c3)) (hp:∃I,p3=some ⟨D,I,none⟩/\(I=H+(at_+1)*2\/y.length=at_+1))=>
  show Calls Tryz.prog 168 #[.slice (some ⟨K,0,none⟩) 3 3] W fun e w'=>∃v,e=.returned v/\w'.ownsRow W.heap.size 64 2 v (x.length+at_+(y.length-(at_+1))) (Qak x++Qak (y.take at_)++Qak (y.drop (at_+1)))/\Below W.heap.size W w' from by
   obtain⟨I,rfl,N⟩:=hp;exact QnY K x.length at_ (y.length-(at_+1)) M D D O H I V F c3 (Qak x) (Qak (y.take at_)) (Qak (y.drop (at_+1))) W ak c0 c1 c2 (by have:=J.size;omega) (Qcf x) (QdS (hx.below J ae)) (by omega) (Qcn x) (by have:=J.size;omega) (by rw[Qcf,List.length_take];omega) (QdS ((Z.below J U).take at_)) (by omega) (Qcn _) (by have:=J.size;omega) (by rw[Qcf,List.length_drop]) (by
    rcases N with N|N
    ·rw[N];exact QdS ((Z.below J U).drop (at_+1))
    ·intro j u hj;rw[List.drop_eq_nil_of_le (by omega)] at hj;simp[Qak] at hj) (by omega) (Qcn _))
 have HP:=Hk (show∃I,(if F=at_+1 then some (⟨D,H,none⟩:Addr) else some ⟨D,H+(at_+1)*2,none⟩)=some ⟨D,I,none⟩/\(I=H+(at_+1)*2\/y.length=at_+1) by
  by_cases h:F=at_+1
  ·rw[if_pos h];exact⟨H,rfl,Or.inr (by omega)⟩
  ·rw[if_neg h];exact⟨_,rfl,Or.inl rfl⟩)
 have HE:=Hk (show Qak x++Qak (y.take at_)++Qak (y.drop (at_+1))=Qak (Qb7 x y at_)/\x.length+at_+(y.length-(at_+1))=(Qb7 x y at_).length by
  refine⟨by unfold Qb7;rw[QeM,QeM],?_⟩;have:=QgR x y at_ ab;omega)
 have h1:(at_:Int)<=(F:Int):=by omega
 have h2:(at_:Int)+1<=(y.length:Int):=by omega
 have N:(y.length:Int)<=(F:Int):=by omega
 have h4:(0:Int)<=(at_:Int):=by omega
 have h5:(0:Int)<=(at_:Int)+1:=by omega
 have h6:IntKind.i64.wrap ((at_:Int)+1)=(at_:Int)+1:=by rw[IntKind.wrap_i64];omega
 have h7:(at_:Int)+1<=(F:Int):=by omega
 have h8:((at_:Int)+1).toNat=at_+1:=by omega
 clear hx Z;obtain⟨P3,ac⟩:∃q,(if F=at_+1 then some (⟨D,H,none⟩:Addr) else some ⟨D,H+(at_+1)*2,none⟩)=q:=⟨_,rfl⟩;rw[ac] at HP;go_enter Tryz.func132,Tryz.ntmps132;go_wp2_with fail
 go_region_held3 (fun _=>True) (trivial) (first|(go_at_call 168;refine(HC.out _ (bel_box (Below.refl _ _) _).drew w.heap.size P3 (F-(at_+1)) (by simp) (by simp) (by simp) (by simp) HP.out).mono ?_;rintro e w1 ⟨v1,rfl,ad,ah⟩))
 go_wp2;go_ret;exact⟨_,rfl,by rw[<-HE.out.1,<-HE.out.2];exact own_mono (by simp) ad,bel_then (bel_box (Below.refl _ _) _).drew ah⟩
end Go.Proofs.YtjlgejennghhlaaGreatDoor
