import Derived.Deep.RegionHeld3
import Derived.Test.YtofidnijfnhpaaaGreatDoorQ01
import Derived.Test.YtofidnijfnhpaaaGreatDoorQ10
set_option linter.unusedSimpArgs false
set_option linter.unusedVariables false
set_option linter.unusedSectionVars false
set_option maxRecDepth 1000000
set_option maxHeartbeats 16000000
namespace Go.Proofs.YtofidnijfnhpaaaGreatDoor
open Go.RowKit
theorem Qjk (n:Nat) (w:World) (K:n<=1000):
 Calls Tryz.prog 140 #[.slice none 0 0,.int .i64 n] w fun e w'=>∃v,e=.returned v/\w'.ownsRow w.heap.size 24 3 v 0 []/\Below w.heap.size w w':=by
 obtain⟨B,D,z,o,q⟩:=info_parts Tryz.infoVal
 by_cases h0:n=0
 ·subst h0
  go_enter Tryz.func140,Tryz.ntmps140
  go_wp2
  go_ret
  exact⟨_,rfl,World.ownsRow_nil _ _ _ _,Below.refl _ _⟩
 ·have y:∀ty,(Builtin.append_ #[57,3] ty #[.slice none 0 0,.int .i64 n]).run Tryz.prog w=_:=fun ty=>Lib.run_append_nil_zeros w 57 3 ty 24 B (.agg #[.int .i64 0,.int .i64 0,.string ⟨#[]⟩]) .i64 .i64 Tryz.underlying57 Tryz.underlying3 D z n (by omega) (by rw[o];decide) (by omega) (by rw[q];omega)
  have j:=grownCap_ge w n 0 24
  have h:=grownCap_le_maxLen w n 0 24 (by unfold maxLen;omega)
  obtain⟨G,A⟩:∃G,G=grownCap w n 0 24:=⟨_,rfl⟩
  rw[<-A] at y j h
  have hle':(G:Int)<=9223372036854775807:=by unfold maxLen at h;omega
  have I:¬((n:Int)<0):=by omega
  have F:(0:Int)<(n:Int):=by omega
  have E:=Hk (fun(W:World) (J:W.heap.size=w.heap.size)=>World.ownsRow_made (base:=w.heap.size) (e:=24) (size:=3) W (Builtin.zeroCells (Value.cells (.agg #[.int .i64 0,.int .i64 0,.string ⟨#[]⟩])) n++Builtin.zeroCells (Value.cells (.agg #[.int .i64 0,.int .i64 0,.string ⟨#[]⟩])) (G-n)) G (by omega) h (by rw[Array.size_append,size_zeroCells,size_zeroCells];simp[Value.cells];omega))
  clear A
  go_enter Tryz.func140,Tryz.ntmps140
  go_wp2_with (at_builtin;refine Lib.wpList_append_run _ rfl _ _ _ _ rfl _ _ rfl rfl _ _ (y _) ?_)
  go_ret
  exact⟨_,rfl,E.out w.drew rfl,Qad (Below.refl _ _).drew _⟩
theorem Qkx (N A F K g1 g2 g3 o1 o2 o3 k1 k2 k3:Nat) (E I J:List Value) (w:World) (V:N<w.heap.size) (c0:w.cell? ⟨N,0,none⟩=some (.slice (some ⟨g1,o1,none⟩) A k1)) (c1:w.cell? ⟨N,1,none⟩=some (.slice (some ⟨g2,o2,none⟩) F k2)) (c2:w.cell? ⟨N,2,none⟩=some (.slice (some ⟨g3,o3,none⟩) K k3)) (aK:g1<w.heap.size) (ar:E.length=A*3) (ax:∀j u,E[j]? =some u->w.cell? ((⟨g1,o1,none⟩:Addr).add j)=some u) (aS:A<=100) (M:∀u∈E,u.oneCell'=true) (aH:g2<w.heap.size) (av:I.length=F*3) (ap:∀j u,I[j]? =some u->w.cell? ((⟨g2,o2,none⟩:Addr).add j)=some u) (aU:F<=100) (au:∀u∈I,u.oneCell'=true) (aN:g3<w.heap.size) (al:J.length=K*3) (aA:∀j u,J[j]? =some u->w.cell? ((⟨g3,o3,none⟩:Addr).add j)=some u) (aV:K<=100) (aw:∀u∈J,u.oneCell'=true):
 Calls Tryz.prog 124 #[.slice (some ⟨N,0,none⟩) 3 3] w fun e w'=>∃v,e=.returned v/\w'.ownsRow w.heap.size 24 3 v (A+F+K) (E++I++J)/\Below w.heap.size w w':=by
 obtain⟨i0,hi,ag,U,ah⟩:=info_parts Tryz.infoVal
 have HG:=Hk (Qjk (A+F+K) w (by omega))
 have HL:=Hk (Ai ar (Ai av al))
 have aq:=Hk (Ai ax M)
 have ao:=Hk (Ai ap au)
 have am:=Hk (Ai aA aw)
 clear ar av al ax ap aA M au aw
 go_enter Tryz.func124,Tryz.ntmps124
 go_wp2
 go_loopw [3,11] (fun s i wr=>wr=w/\∃k:Nat,k<=3/\i=.int .i64 k/\s=.int .i64 (((if k=0 then 0 else if k=1 then A else if k=2 then A+F else A+F+K):Nat):Int)) (fun _ i _=>3-(intOf i).toNat)
 case atStart=>exact⟨rfl,0,by omega,rfl,rfl⟩
 case round=>
  obtain⟨ay,k,hk,rfl,rfl⟩:=hrel
  have hww':=ay.symm
  subst hww'
  clear ay
  have ac:k=0\/k=1\/k=2\/k=3:=by omega
  rcases ac with rfl|rfl|rfl|rfl
  ·have ae:¬(((A:Nat):Int)<0):=by omega
   go_wp2
   all_goals go_roundw
   case rel=>exact⟨by first|trivial|rfl,1,by omega,by go_num,by first|(simp;done)|(simp;omega)⟩
   case measure=>simp[intOf]
  ·have ae:¬(((A+F:Nat):Int)<0):=by omega
   go_wp2
   all_goals go_roundw
   case rel=>exact⟨by first|trivial|rfl,2,by omega,by go_num,by first|(simp;done)|(simp;omega)⟩
   case measure=>simp[intOf]
  ·have ae:¬(((A+F+K:Nat):Int)<0):=by omega
   go_wp2
   all_goals go_roundw
   case rel=>exact⟨by first|trivial|rfl,3,by omega,by go_num,by first|(simp;done)|(simp;omega)⟩
   case measure=>simp[intOf]
  ·go_wp2_with (go_at_call 140;fail)
   try rw[show(A:Int)+(F:Int)+(K:Int)=((A+F+K:Nat):Int) by omega]
   refine HG.out.mono ?_
   rintro e w1 ⟨v,rfl,M,az⟩
   have HS:=Hk (Ai M az)
   clear M az HG
   go_wp2
   go_loopw [6,27] (fun l i wr=>∃k:Nat,k<=3/\i=.int .i64 k/\wr.ownsRow w.heap.size 24 3 l (if k=0 then 0 else if k=1 then A else if k=2 then A+F else A+F+K) (if k=0 then[] else if k=1 then E else if k=2 then E++I else E++I++J)/\Below w.heap.size w wr) (fun _ i _=>3-(intOf i).toNat)
   case atStart=>exact⟨0,by omega,rfl,HS.out.1,HS.out.2⟩
   case round=>
    obtain⟨k,hk,rfl,h,o⟩:=hrel
    have ac:k=0\/k=1\/k=2\/k=3:=by omega
    have aT:=o.size
    have d0:=cK o V c0
    have d1:=cK o V c1
    have d2:=cK o V c2
    rcases ac with rfl|rfl|rfl|rfl
    ·simp at h
     obtain⟨la,lc,rfl⟩:=Qae h
     have Z:=Hk (fun(j:Nat) (u:Value) (T:E[j]? =some u)=>(o.cell (p:=(⟨g1,o1,none⟩:Addr).add j) (by rw[Addr.add_mid];exact aK)).trans (aq.out.1 j u T))
     have D:=Hk (Ai h o)
     clear h o
     go_wp2_with (at_builtin;refine wpList_append_own _ rfl _ _ 57 rfl w.heap.size 24 i0 (.agg #[.int .i64 0,.int .i64 0,.string ⟨#[]⟩]) 3 32 Tryz.underlying57 hi ag U ah rfl (by decide) _ _ _ rfl D.out.1 ⟨g1,o1,none⟩ A k1 E rfl ?c0 Z.out ?c2 ?c3 ?c4 ?c5 ?_)
     case c0=>have:=HL.out;omega
     case c2=>exact aq.out.2
     case c3=>unfold maxLen;omega
     case c4=>omega
     case c5=>omega
     intro v' w5 z y _
     have B:Below w.heap.size w w5:=D.out.2.grown y (by omega) (fun q hq=>(D.out.1.lt q hq).1)
     have O:=Hk (Ai z B)
     clear z y B
     go_wp2
     go_roundw
     case rel=>exact⟨1,by omega,by go_num,by simpa using O.out.1,O.out.2⟩
     case measure=>simp[intOf]
    ·simp at h
     obtain⟨la,lc,rfl⟩:=Qae h
     have Z:=Hk (fun(j:Nat) (u:Value) (T:I[j]? =some u)=>(o.cell (p:=(⟨g2,o2,none⟩:Addr).add j) (by rw[Addr.add_mid];exact aH)).trans (ao.out.1 j u T))
     have D:=Hk (Ai h o)
     clear h o
     go_wp2_with (at_builtin;refine wpList_append_own _ rfl _ _ 57 rfl w.heap.size 24 i0 (.agg #[.int .i64 0,.int .i64 0,.string ⟨#[]⟩]) 3 32 Tryz.underlying57 hi ag U ah rfl (by decide) _ _ _ rfl D.out.1 ⟨g2,o2,none⟩ F k2 I rfl ?c0 Z.out ?c2 ?c3 ?c4 ?c5 ?_)
     case c0=>have:=HL.out;omega
     case c2=>exact ao.out.2
     case c3=>unfold maxLen;omega
     case c4=>omega
     case c5=>omega
     intro v' w5 z y _
     have B:Below w.heap.size w w5:=D.out.2.grown y (by omega) (fun q hq=>(D.out.1.lt q hq).1)
     have O:=Hk (Ai z B)
     clear z y B
     go_wp2
     go_roundw
     case rel=>exact⟨2,by omega,by go_num,by simpa using O.out.1,O.out.2⟩
     case measure=>simp[intOf]
    ·simp at h
     obtain⟨la,lc,rfl⟩:=Qae h
     have Z:=Hk (fun(j:Nat) (u:Value) (T:J[j]? =some u)=>(o.cell (p:=(⟨g3,o3,none⟩:Addr).add j) (by rw[Addr.add_mid];exact aN)).trans (am.out.1 j u T))
     have D:=Hk (Ai h o)
     clear h o
     go_wp2_with (at_builtin;refine wpList_append_own _ rfl _ _ 57 rfl w.heap.size 24 i0 (.agg #[.int .i64 0,.int .i64 0,.string ⟨#[]⟩]) 3 32 Tryz.underlying57 hi ag U ah rfl (by decide) _ _ _ rfl D.out.1 ⟨g3,o3,none⟩ K k3 J rfl ?c0 Z.out ?c2 ?c3 ?c4 ?c5 ?_)
     case c0=>have:=HL.out;omega
     case c2=>exact am.out.2
     case c3=>unfold maxLen;omega
     case c4=>omega
     case c5=>omega
     intro v' w5 z y _
     have B:Below w.heap.size w w5:=D.out.2.grown y (by omega) (fun q hq=>(D.out.1.lt q hq).1)
     have O:=Hk (Ai z B)
     clear z y B
     go_wp2
     go_roundw
     case rel=>exact⟨3,by omega,by go_num,by simpa using O.out.1,O.out.2⟩
     case measure=>simp[intOf]
    ·have D:=Hk (Ai h o)
     obtain⟨la,lc,hl⟩:=Qae h
     subst hl
     clear h o
     go_wp2
     go_ret
     exact⟨_,rfl,by simpa using D.out.1,D.out.2⟩
theorem Qjl (n:Nat) (w:World) (K:n<=1000):
 Calls Tryz.prog 103 #[.slice none 0 0,.int .i64 n] w fun e w'=>∃v,e=.returned v/\w'.ownsRow w.heap.size 56 2 v 0 []/\Below w.heap.size w w':=by
 obtain⟨B,D,z,o,q⟩:=info_parts Tryz.infoCol
 by_cases h0:n=0
 ·subst h0
  go_enter Tryz.func103,Tryz.ntmps103
  go_wp2
  go_ret
  exact⟨_,rfl,World.ownsRow_nil _ _ _ _,Below.refl _ _⟩
 ·have y:∀ty,(Builtin.append_ #[33,3] ty #[.slice none 0 0,.int .i64 n]).run Tryz.prog w=_:=fun ty=>Lib.run_append_nil_zeros w 33 3 ty 56 B (.agg #[.string ⟨#[]⟩,.int .i64 0]) .i64 .i64 Tryz.underlying33 Tryz.underlying3 D z n (by omega) (by rw[o];decide) (by omega) (by rw[q];omega)
  have j:=grownCap_ge w n 0 56
  have h:=grownCap_le_maxLen w n 0 56 (by unfold maxLen;omega)
  obtain⟨G,A⟩:∃G,G=grownCap w n 0 56:=⟨_,rfl⟩
  rw[<-A] at y j h
  have hle':(G:Int)<=9223372036854775807:=by unfold maxLen at h;omega
  have I:¬((n:Int)<0):=by omega
  have F:(0:Int)<(n:Int):=by omega
  have E:=Hk (fun(W:World) (J:W.heap.size=w.heap.size)=>World.ownsRow_made (base:=w.heap.size) (e:=56) (size:=2) W (Builtin.zeroCells (Value.cells (.agg #[.string ⟨#[]⟩,.int .i64 0])) n++Builtin.zeroCells (Value.cells (.agg #[.string ⟨#[]⟩,.int .i64 0])) (G-n)) G (by omega) h (by rw[Array.size_append,size_zeroCells,size_zeroCells];simp[Value.cells];omega))
  clear A
  go_enter Tryz.func103,Tryz.ntmps103
  go_wp2_with (at_builtin;refine Lib.wpList_append_run _ rfl _ _ _ _ rfl _ _ rfl rfl _ _ (y _) ?_)
  go_ret
  exact⟨_,rfl,E.out w.drew rfl,Qad (Below.refl _ _).drew _⟩
theorem Qky (N A F K g1 g2 g3 o1 o2 o3 k1 k2 k3:Nat) (E I J:List Value) (w:World) (V:N<w.heap.size) (c0:w.cell? ⟨N,0,none⟩=some (.slice (some ⟨g1,o1,none⟩) A k1)) (c1:w.cell? ⟨N,1,none⟩=some (.slice (some ⟨g2,o2,none⟩) F k2)) (c2:w.cell? ⟨N,2,none⟩=some (.slice (some ⟨g3,o3,none⟩) K k3)) (aK:g1<w.heap.size) (ar:E.length=A*2) (ax:∀j u,E[j]? =some u->w.cell? ((⟨g1,o1,none⟩:Addr).add j)=some u) (aS:A<=100) (M:∀u∈E,u.oneCell'=true) (aH:g2<w.heap.size) (av:I.length=F*2) (ap:∀j u,I[j]? =some u->w.cell? ((⟨g2,o2,none⟩:Addr).add j)=some u) (aU:F<=100) (au:∀u∈I,u.oneCell'=true) (aN:g3<w.heap.size) (al:J.length=K*2) (aA:∀j u,J[j]? =some u->w.cell? ((⟨g3,o3,none⟩:Addr).add j)=some u) (aV:K<=100) (aw:∀u∈J,u.oneCell'=true):
 Calls Tryz.prog 78 #[.slice (some ⟨N,0,none⟩) 3 3] w fun e w'=>∃v,e=.returned v/\w'.ownsRow w.heap.size 56 2 v (A+F+K) (E++I++J)/\Below w.heap.size w w':=by
 obtain⟨i0,hi,ag,U,ah⟩:=info_parts Tryz.infoCol
 have HG:=Hk (Qjl (A+F+K) w (by omega))
 have HL:=Hk (Ai ar (Ai av al))
 have aq:=Hk (Ai ax M)
 have ao:=Hk (Ai ap au)
 have am:=Hk (Ai aA aw)
 clear ar av al ax ap aA M au aw
 go_enter Tryz.func78,Tryz.ntmps78
 go_wp2
 go_loopw [3,11] (fun s i wr=>wr=w/\∃k:Nat,k<=3/\i=.int .i64 k/\s=.int .i64 (((if k=0 then 0 else if k=1 then A else if k=2 then A+F else A+F+K):Nat):Int)) (fun _ i _=>3-(intOf i).toNat)
 case atStart=>exact⟨rfl,0,by omega,rfl,rfl⟩
 case round=>
  obtain⟨ay,k,hk,rfl,rfl⟩:=hrel
  have hww':=ay.symm
  subst hww'
  clear ay
  have ac:k=0\/k=1\/k=2\/k=3:=by omega
  rcases ac with rfl|rfl|rfl|rfl
  ·have ae:¬(((A:Nat):Int)<0):=by omega
   go_wp2
   all_goals go_roundw
   case rel=>exact⟨by first|trivial|rfl,1,by omega,by go_num,by first|(simp;done)|(simp;omega)⟩
   case measure=>simp[intOf]
  ·have ae:¬(((A+F:Nat):Int)<0):=by omega
   go_wp2
   all_goals go_roundw
   case rel=>exact⟨by first|trivial|rfl,2,by omega,by go_num,by first|(simp;done)|(simp;omega)⟩
   case measure=>simp[intOf]
  ·have ae:¬(((A+F+K:Nat):Int)<0):=by omega
   go_wp2
   all_goals go_roundw
   case rel=>exact⟨by first|trivial|rfl,3,by omega,by go_num,by first|(simp;done)|(simp;omega)⟩
   case measure=>simp[intOf]
  ·go_wp2_with (go_at_call 103;fail)
   try rw[show(A:Int)+(F:Int)+(K:Int)=((A+F+K:Nat):Int) by omega]
   refine HG.out.mono ?_
   rintro e w1 ⟨v,rfl,M,az⟩
   have HS:=Hk (Ai M az)
   clear M az HG
   go_wp2
   go_loopw [6,27] (fun l i wr=>∃k:Nat,k<=3/\i=.int .i64 k/\wr.ownsRow w.heap.size 56 2 l (if k=0 then 0 else if k=1 then A else if k=2 then A+F else A+F+K) (if k=0 then[] else if k=1 then E else if k=2 then E++I else E++I++J)/\Below w.heap.size w wr) (fun _ i _=>3-(intOf i).toNat)
   case atStart=>exact⟨0,by omega,rfl,HS.out.1,HS.out.2⟩
   case round=>
    obtain⟨k,hk,rfl,h,o⟩:=hrel
    have ac:k=0\/k=1\/k=2\/k=3:=by omega
    have aT:=o.size
    have d0:=cK o V c0
    have d1:=cK o V c1
    have d2:=cK o V c2
    rcases ac with rfl|rfl|rfl|rfl
    ·simp at h
     obtain⟨la,lc,rfl⟩:=Qae h
     have Z:=Hk (fun(j:Nat) (u:Value) (T:E[j]? =some u)=>(o.cell (p:=(⟨g1,o1,none⟩:Addr).add j) (by rw[Addr.add_mid];exact aK)).trans (aq.out.1 j u T))
     have D:=Hk (Ai h o)
     clear h o
     go_wp2_with (at_builtin;refine wpList_append_own _ rfl _ _ 33 rfl w.heap.size 56 i0 (.agg #[.string ⟨#[]⟩,.int .i64 0]) 2 24 Tryz.underlying33 hi ag U ah rfl (by decide) _ _ _ rfl D.out.1 ⟨g1,o1,none⟩ A k1 E rfl ?c0 Z.out ?c2 ?c3 ?c4 ?c5 ?_)
     case c0=>have:=HL.out;omega
     case c2=>exact aq.out.2
     case c3=>unfold maxLen;omega
     case c4=>omega
     case c5=>omega
     intro v' w5 z y _
     have B:Below w.heap.size w w5:=D.out.2.grown y (by omega) (fun q hq=>(D.out.1.lt q hq).1)
     have O:=Hk (Ai z B)
     clear z y B
     go_wp2
     go_roundw
     case rel=>exact⟨1,by omega,by go_num,by simpa using O.out.1,O.out.2⟩
     case measure=>simp[intOf]
    ·simp at h
     obtain⟨la,lc,rfl⟩:=Qae h
     have Z:=Hk (fun(j:Nat) (u:Value) (T:I[j]? =some u)=>(o.cell (p:=(⟨g2,o2,none⟩:Addr).add j) (by rw[Addr.add_mid];exact aH)).trans (ao.out.1 j u T))
     have D:=Hk (Ai h o)
     clear h o
     go_wp2_with (at_builtin;refine wpList_append_own _ rfl _ _ 33 rfl w.heap.size 56 i0 (.agg #[.string ⟨#[]⟩,.int .i64 0]) 2 24 Tryz.underlying33 hi ag U ah rfl (by decide) _ _ _ rfl D.out.1 ⟨g2,o2,none⟩ F k2 I rfl ?c0 Z.out ?c2 ?c3 ?c4 ?c5 ?_)
     case c0=>have:=HL.out;omega
     case c2=>exact ao.out.2
     case c3=>unfold maxLen;omega
     case c4=>omega
     case c5=>omega
     intro v' w5 z y _
     have B:Below w.heap.size w w5:=D.out.2.grown y (by omega) (fun q hq=>(D.out.1.lt q hq).1)
     have O:=Hk (Ai z B)
     clear z y B
     go_wp2
     go_roundw
     case rel=>exact⟨2,by omega,by go_num,by simpa using O.out.1,O.out.2⟩
     case measure=>simp[intOf]
    ·simp at h
     obtain⟨la,lc,rfl⟩:=Qae h
     have Z:=Hk (fun(j:Nat) (u:Value) (T:J[j]? =some u)=>(o.cell (p:=(⟨g3,o3,none⟩:Addr).add j) (by rw[Addr.add_mid];exact aN)).trans (am.out.1 j u T))
     have D:=Hk (Ai h o)
     clear h o
     go_wp2_with (at_builtin;refine wpList_append_own _ rfl _ _ 33 rfl w.heap.size 56 i0 (.agg #[.string ⟨#[]⟩,.int .i64 0]) 2 24 Tryz.underlying33 hi ag U ah rfl (by decide) _ _ _ rfl D.out.1 ⟨g3,o3,none⟩ K k3 J rfl ?c0 Z.out ?c2 ?c3 ?c4 ?c5 ?_)
     case c0=>have:=HL.out;omega
     case c2=>exact am.out.2
     case c3=>unfold maxLen;omega
     case c4=>omega
     case c5=>omega
     intro v' w5 z y _
     have B:Below w.heap.size w w5:=D.out.2.grown y (by omega) (fun q hq=>(D.out.1.lt q hq).1)
     have O:=Hk (Ai z B)
     clear z y B
     go_wp2
     go_roundw
     case rel=>exact⟨3,by omega,by go_num,by simpa using O.out.1,O.out.2⟩
     case measure=>simp[intOf]
    ·have D:=Hk (Ai h o)
     obtain⟨la,lc,hl⟩:=Qae h
     subst hl
     clear h o
     go_wp2
     go_ret
     exact⟨_,rfl,by simpa using D.out.1,D.out.2⟩
def Qb0 {α:Type} (x y:List α) (k:Nat):List α:=x++y.take k++y.drop (k+1)
theorem Qec {α:Type} (x y:List α) (k:Nat) (h:k<y.length):(Qb0 x y k).length+1=x.length+y.length:=by
 unfold Qb0
 simp only[List.length_append,List.length_take,List.length_drop]
 omega
theorem QaK.take {w:World} {b o:Nat} {y:List Vl} (h:QaK w b o y) (k:Nat):QaK w b o (y.take k):=fun j q=>by
 have hj':j<y.length:=by rw[List.length_take] at q;omega
 have:=h j hj'
 rw[List.getElem_take]
 exact this
theorem QaK.drop {w:World} {b o:Nat} {y:List Vl} (h:QaK w b o y) (k:Nat):QaK w b (o+k*3) (y.drop k):=fun j q=>by
 have hj':k+j<y.length:=by rw[List.length_drop] at q;omega
 have:=h (k+j) hj'
 rw[List.getElem_drop]
 rw[show o+k*3+j*3=o+(k+j)*3 by omega]
 exact this
theorem Qas.drop {w:World} {b o:Nat} {y:List Cl} (h:Qas w b o y) (k:Nat):Qas w b (o+k*2) (y.drop k):=fun j q=>by
 have hj':k+j<y.length:=by rw[List.length_drop] at q;omega
 have:=h (k+j) hj'
 rw[List.getElem_drop]
 rw[show o+k*2+j*2=o+(k+j)*2 by omega]
 exact this
theorem Qck (x y:List Vl):Qai (x++y)=Qai x++Qai y:=by simp[Qai]
theorem QcR (x y:List Cl):Qap (x++y)=Qap x++Qap y:=by simp[Qap]
theorem QbK (h:List Cl):(Qap h).length=h.length*2:=by
 induction h with
 |nil=>rfl
 |cons c r ih=>simp only[Qap,List.flatMap_cons,List.length_append,List.length_cons,List.length_nil] at ih⊢;omega
theorem Qit (F J N o A z at_:Nat) (x y:List Vl) (w:World) (V:F<w.heap.size) (O:QaK w F J x) (K:o<w.heap.size) (M:QaK w o A y) (U:at_<y.length) (ag:y.length<=z) (al:x.length<=50) (ak:y.length<=50):
 Calls Tryz.prog 100 #[.slice (some ⟨F,J,none⟩) x.length N,.slice (some ⟨o,A,none⟩) y.length z,.int .i64 at_] w fun e w'=>∃v,e=.returned v/\w'.ownsRow w.heap.size 24 3 v (Qb0 x y at_).length (Qai (Qb0 x y at_))/\Below w.heap.size w w':=by
 have HC:=Hk (fun(W:World) (D:Below w.heap.size w W) (E:Nat) (p3:Option Addr) (c3:Nat) (ab:E<W.heap.size) (c0:W.cell? ⟨E,0,none⟩=some (.slice (some ⟨F,J,none⟩) x.length N)) (c1:W.cell? ⟨E,1,none⟩=some (.slice (some ⟨o,A,none⟩) at_ z)) (c2:W.cell? ⟨E,2,none⟩=some (.slice p3 (y.length-(at_+1)) c3)) (hp:∃B,p3=some ⟨o,B,none⟩/\(B=A+(at_+1)*3\/y.length=at_+1))=>
  show Calls Tryz.prog 124 #[.slice (some ⟨E,0,none⟩) 3 3] W fun e w'=>∃v,e=.returned v/\w'.ownsRow W.heap.size 24 3 v (x.length+at_+(y.length-(at_+1))) (Qai x++Qai (y.take at_)++Qai (y.drop (at_+1)))/\Below W.heap.size W w' from by
   obtain⟨B,rfl,I⟩:=hp
   exact Qkx E x.length at_ (y.length-(at_+1)) F o o J A B N z c3 (Qai x) (Qai (y.take at_)) (Qai (y.drop (at_+1))) W ab c0 c1 c2 (by have:=D.size;omega) (QaZ x) (QbX (O.below D V)) (by omega) (Qbc x) (by have:=D.size;omega) (by rw[QaZ,List.length_take];omega) (QbX ((M.below D K).take at_)) (by omega) (Qbc _) (by have:=D.size;omega) (by rw[QaZ,List.length_drop]) (by
    rcases I with I|I
    ·rw[I];exact QbX ((M.below D K).drop (at_+1))
    ·intro j u T
     rw[List.drop_eq_nil_of_le (by omega)] at T
     simp[Qai] at T) (by omega) (Qbc _))
 have HP:=Hk (show∃B,(if z=at_+1 then some (⟨o,A,none⟩:Addr) else some ⟨o,A+(at_+1)*3,none⟩)=some ⟨o,B,none⟩/\(B=A+(at_+1)*3\/y.length=at_+1) by
  by_cases h:z=at_+1
  ·rw[if_pos h];exact⟨A,rfl,Or.inr (by omega)⟩
  ·rw[if_neg h];exact⟨_,rfl,Or.inl rfl⟩)
 have Z:=Hk (show Qai x++Qai (y.take at_)++Qai (y.drop (at_+1))=Qai (Qb0 x y at_)/\x.length+at_+(y.length-(at_+1))=(Qb0 x y at_).length by
  refine⟨by unfold Qb0;rw[Qck,Qck],?_⟩
  have:=Qec x y at_ U
  omega)
 have h1:(at_:Int)<=(z:Int):=by omega
 have h2:(at_:Int)+1<=(y.length:Int):=by omega
 have I:(y.length:Int)<=(z:Int):=by omega
 have h4:(0:Int)<=(at_:Int):=by omega
 have h5:(0:Int)<=(at_:Int)+1:=by omega
 have h6:IntKind.i64.wrap ((at_:Int)+1)=(at_:Int)+1:=by rw[IntKind.wrap_i64];omega
 have h7:(at_:Int)+1<=(z:Int):=by omega
 have h8:((at_:Int)+1).toNat=at_+1:=by omega
 clear O M
 obtain⟨P3,ac⟩:∃q,(if z=at_+1 then some (⟨o,A,none⟩:Addr) else some ⟨o,A+(at_+1)*3,none⟩)=q:=⟨_,rfl⟩
 rw[ac] at HP
 go_enter Tryz.func100,Tryz.ntmps100
 go_wp2_with fail
 go_region_held3 (fun _=>True) (trivial) (first|(go_at_call 124;refine(HC.out _ (Qad (Below.refl _ _) _).drew w.heap.size P3 (z-(at_+1)) (by simp) (by simp) (by simp) (by simp) HP.out).mono ?_;rintro e w1 ⟨v1,rfl,aa,ae⟩))
 go_wp2
 go_ret
 exact⟨_,rfl,by rw[<-Z.out.1,<-Z.out.2];exact Qam (by simp) aa,Qaa (Qad (Below.refl _ _) _).drew ae⟩
theorem Qfc (F J N o A z at_:Nat) (x y:List Cl) (w:World) (V:F<w.heap.size) (O:Qas w F J x) (K:o<w.heap.size) (M:Qas w o A y) (U:at_<y.length) (ag:y.length<=z) (al:x.length<=50) (ak:y.length<=50):
 Calls Tryz.prog 53 #[.slice (some ⟨F,J,none⟩) x.length N,.slice (some ⟨o,A,none⟩) y.length z,.int .i64 at_] w fun e w'=>∃v,e=.returned v/\w'.ownsRow w.heap.size 56 2 v (Qb0 x y at_).length (Qap (Qb0 x y at_))/\Below w.heap.size w w':=by
 have HC:=Hk (fun(W:World) (D:Below w.heap.size w W) (E:Nat) (p3:Option Addr) (c3:Nat) (ab:E<W.heap.size) (c0:W.cell? ⟨E,0,none⟩=some (.slice (some ⟨F,J,none⟩) x.length N)) (c1:W.cell? ⟨E,1,none⟩=some (.slice (some ⟨o,A,none⟩) at_ z)) (c2:W.cell? ⟨E,2,none⟩=some (.slice p3 (y.length-(at_+1)) c3)) (hp:∃B,p3=some ⟨o,B,none⟩/\(B=A+(at_+1)*2\/y.length=at_+1))=>
  show Calls Tryz.prog 78 #[.slice (some ⟨E,0,none⟩) 3 3] W fun e w'=>∃v,e=.returned v/\w'.ownsRow W.heap.size 56 2 v (x.length+at_+(y.length-(at_+1))) (Qap x++Qap (y.take at_)++Qap (y.drop (at_+1)))/\Below W.heap.size W w' from by
   obtain⟨B,rfl,I⟩:=hp
   exact Qky E x.length at_ (y.length-(at_+1)) F o o J A B N z c3 (Qap x) (Qap (y.take at_)) (Qap (y.drop (at_+1))) W ab c0 c1 c2 (by have:=D.size;omega) (QbK x) (QcO (O.below D V)) (by omega) (QbY x) (by have:=D.size;omega) (by rw[QbK,List.length_take];omega) (QcO ((M.below D K).take at_)) (by omega) (QbY _) (by have:=D.size;omega) (by rw[QbK,List.length_drop]) (by
    rcases I with I|I
    ·rw[I];exact QcO ((M.below D K).drop (at_+1))
    ·intro j u T
     rw[List.drop_eq_nil_of_le (by omega)] at T
     simp[Qap] at T) (by omega) (QbY _))
 have HP:=Hk (show∃B,(if z=at_+1 then some (⟨o,A,none⟩:Addr) else some ⟨o,A+(at_+1)*2,none⟩)=some ⟨o,B,none⟩/\(B=A+(at_+1)*2\/y.length=at_+1) by
  by_cases h:z=at_+1
  ·rw[if_pos h];exact⟨A,rfl,Or.inr (by omega)⟩
  ·rw[if_neg h];exact⟨_,rfl,Or.inl rfl⟩)
 have Z:=Hk (show Qap x++Qap (y.take at_)++Qap (y.drop (at_+1))=Qap (Qb0 x y at_)/\x.length+at_+(y.length-(at_+1))=(Qb0 x y at_).length by
  refine⟨by unfold Qb0;rw[QcR,QcR],?_⟩
  have:=Qec x y at_ U
  omega)
 have h1:(at_:Int)<=(z:Int):=by omega
 have h2:(at_:Int)+1<=(y.length:Int):=by omega
 have I:(y.length:Int)<=(z:Int):=by omega
 have h4:(0:Int)<=(at_:Int):=by omega
 have h5:(0:Int)<=(at_:Int)+1:=by omega
 have h6:IntKind.i64.wrap ((at_:Int)+1)=(at_:Int)+1:=by rw[IntKind.wrap_i64];omega
 have h7:(at_:Int)+1<=(z:Int):=by omega
 have h8:((at_:Int)+1).toNat=at_+1:=by omega
 clear O M
 obtain⟨P3,ac⟩:∃q,(if z=at_+1 then some (⟨o,A,none⟩:Addr) else some ⟨o,A+(at_+1)*2,none⟩)=q:=⟨_,rfl⟩
 rw[ac] at HP
 go_enter Tryz.func53,Tryz.ntmps53
 go_wp2_with fail
 go_region_held3 (fun _=>True) (trivial) (first|(go_at_call 78;refine(HC.out _ (Qad (Below.refl _ _) _).drew w.heap.size P3 (z-(at_+1)) (by simp) (by simp) (by simp) (by simp) HP.out).mono ?_;rintro e w1 ⟨v1,rfl,aa,ae⟩))
 go_wp2
 go_ret
 exact⟨_,rfl,by rw[<-Z.out.1,<-Z.out.2];exact Qam (by simp) aa,Qaa (Qad (Below.refl _ _) _).drew ae⟩
end Go.Proofs.YtofidnijfnhpaaaGreatDoor
