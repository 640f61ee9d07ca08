import Derived.Test.YtofidnijfnhpaaaGreatDoorQ01
import Derived.Test.YtofidnijfnhpaaaGreatDoorQ25
import Derived.Test.YtofidnijfnhpaaaGreatDoorQ44
set_option linter.unusedSimpArgs false
set_option linter.unusedVariables false
set_option linter.unusedSectionVars false
set_option maxRecDepth 1000000
set_option maxHeartbeats 16000000
namespace Go.Proofs.YtofidnijfnhpaaaGreatDoor
open Go.RowKit
theorem Qct {α:Type} {l:List α} {f:α->Bool} {k:Nat} (h:k<l.length):(l.take (k+1)).filter f=(l.take k).filter f++(if f l[k]=true then[l[k]] else[]):=by
 rw[Qc1 h,List.filter_append]
 cases hf:f l[k]<;>simp[hf]
theorem Qeh {α:Type} {l:List α} {f:α->Bool} {k N:Nat} (h:l.length<=N):((l.take k).filter f).length<=N:=by
 have j:=List.length_filter_le f (l.take k)
 simp only[List.length_take] at j
 omega
theorem QlS {w0 wr:World} {B R:Nat} {rs j:List (List Vl)} {v q:Value} {us z:List Value} (h:OutH w0 B R 0 rs v us wr) (o:OutH w0 B R 1 j q z wr) (A:Below w0.heap.size w0 wr):∀(i:Nat) (y:i<[rs,j].length),∃v,wr.cell? ⟨R,i,none⟩=some v/\QaC wr v [rs,j][i]:=by
 intro i y
 simp only[List.length_cons,List.length_nil] at y
 obtain rfl|rfl:i=0\/i=1:=by omega
 ·exact⟨v,h.cell,QhI h.own (h.us.below A)⟩
 ·exact⟨q,o.cell,QhI o.own (o.us.below A)⟩
structure TestOK (cs:List Cl) (j:Jb) (r:List Vl):Prop where
 len:r.length=cs.length
 kind:(QaJ cs r j.left).1=(QaJ cs r j.right).1
 s1:(QaJ cs r j.left).2.2.size<=maxLen
 s2:(QaJ cs r j.right).2.2.size<=maxLen
theorem Qj1 {w:World} {j:Jb} {ss:List ByteArray} (c:List Cl) {tA tB:Tb} {vcA vcB vrB:Value} (aj:j.code=1) {rs:List (List Vl)} (hM:rs.length<=100) (hE:Env w) (ab:j.op.size<=1000000) (h6:inS Qa3 j.op.data.toList=true) (O:tA.1.length<=100) (U:Qb3 tA.1 j.left) (aa:Qb3 tA.1 j.right) (E:∀r∈rs,TestOK tA.1 j r):Qco w j ss [c] tA tB vcA vcB vrB (rs) (fun e w'=>Qbf e w' w.heap.size (Qbl 1 [(rs.filter (QaH tA.1 j))]) [(c,(rs.filter (QaH tA.1 j)))]/\Below w.heap.size w w'):=by
 iterate 317 intro _
 intro F gc cc A Bx q R mp vw v1 W B
 have e1:=B.jb0
 have e2:=B.jgc
 have e3:=B.gA
 have e4:=B.AR
 have e6:=B.BR
 have e5:R<q/\q<mp/\mp<W.heap.size:=by have h1:=B.mR;have h2:=B.qR;have h3:=B.WR;omega
 obtain⟨e5,e7,e8⟩:=e5
 have e9:=B.bel.size
 have k1:W.cell? ⟨F,1,none⟩=some (.int .i64 1):=(B.job 1 (.int .i64 j.code) rfl).trans (by rw[aj])
 have a1:=B.a1
 obtain⟨sa,bs,rfl,-⟩:=B.src
 have N:=Hk B
 obtain⟨r0,rf⟩:=B.rows 0 (by simp)
 clear B
 obtain⟨M,au⟩:∃M,rs.length=M:=⟨_,rfl⟩
 have ai:=Hk au
 rw[au] at a1 hM
 have bd:=Hk (show∀x∈[(rs.filter (QaH tA.1 j))],x.length<=100000 from fun x hx=>by
  have h1:=List.length_filter_le (QaH tA.1 j) rs
  have h2:=List.length_filter_le (fun r=> !QaH tA.1 j r) rs
  simp at hx
  subst hx;omega)
 have HT:=Hk (Ai hE (Ai ab (Ai h6 (Ai O (Ai U (Ai aa E))))))
 clear au hE ab h6 O U aa E
 conv=>arg 2;whnf
 go_wp2
 go_loopw [111] (fun i wr=>∃(k:Nat) (v:Value) (us:List Value),k<=M/\i=.int .i64 k/\OutH w W.heap.size R 0 ((rs.take k).filter (QaH tA.1 j)) v us wr/\Keep2 R mp W wr) (fun i _=>M-(intOf i).toNat)
 case atStart=>exact⟨0,.slice none 0 0,[],Nat.zero_le _,rfl,⟨r0,rf,World.ownsRow_nil _ _ _ _,QeZ.nil _⟩,Keep2.refl _ _ _⟩
 case round=>
  obtain⟨k,v,us,hk,rfl,hO,K⟩:=hrel
  have ap:=(N.out.keep K).1
  have k1':wr.cell? ⟨F,1,none⟩=some (.int .i64 1):=((N.out.keep K).2.1 1 (.int .i64 j.code) rfl).trans (by rw[aj])
  have q0':=(N.out.keep K).2.2.2.2.2.1
  have hsz:=K.size
  by_cases hlt:k<M
  ·have bk:(k:Int)<(M:Int):=by omega
   have ak:k<rs.length:=by have:=ai.out;omega
   obtain⟨b,o,u,rfl,x0,aq⟩:=N.out.row K k ak
   have z:=(N.out.keep K).2.1
   have a0':=(N.out.keep K).2.2.1
   have aZ:=Hk aq
   have ao:=Hk (Ai K hO)
   have bc:=Hk (show((rs.take k).filter (QaH tA.1 j)).length<=100000/\((rs.take k).filter (fun r=> !QaH tA.1 j r)).length<=100000 from⟨Qeh (by have:=ai.out;omega),Qeh (by have:=ai.out;omega)⟩)
   obtain⟨hE,ab,h6,O,U,aa,E⟩:=HT.out
   have T:=E rs[k] (List.getElem_mem ak)
   have ad:∀(X V:Value) (y:World),Below wr.heap.size wr y->(X=aggA j.left/\V=aggV (QaJ tA.1 rs[k] j.left)\/X=aggA j.right/\V=aggV (QaJ tA.1 rs[k] j.right))->Calls Tryz.prog 34 #[X,vcA,u] y fun e w'=>e=.returned V/\Below y.heap.size y w':=by
    intro X V y ax h
    have am:=Qaa ap ax
    rcases h with ⟨rfl,rfl⟩|⟨rfl,rfl⟩
    ·exact QbE _ _ tA.1 rs[k] j.left y (N.out.colsA.below am) (aq.below am) O T.len U
    ·exact QbE _ _ tA.1 rs[k] j.right y (N.out.colsA.below am) (aq.below am) O T.len aa
   have ag:∀y:World,Below wr.heap.size wr y->Calls Tryz.prog 33 #[aggV (QaJ tA.1 rs[k] j.left),.string j.op,aggV (QaJ tA.1 rs[k] j.right)] y fun e w'=>e=.returned (.bool (QaH tA.1 j rs[k]))/\Below y.heap.size y w':=fun y ax=>Qfk j.op _ _ y (hE.below (Qaa ap ax)) ab h6 T.kind T.s1 T.s2
   obtain⟨⟨kl,xl,sl⟩,aP⟩:∃q,QaJ tA.1 rs[k] j.left=q:=⟨_,rfl⟩
   obtain⟨⟨kr,xr,sr⟩,aT⟩:∃q,QaJ tA.1 rs[k] j.right=q:=⟨_,rfl⟩
   rw[aP,aT] at ad ag
   have aW:∀(X V:Value) (y:World),Below wr.heap.size wr y->(X=aggA j.left/\V=.agg #[.int .i64 kl,.int .i64 xl,.string sl]\/X=aggA j.right/\V=.agg #[.int .i64 kr,.int .i64 xr,.string sr])->Calls Tryz.prog 34 #[X,vcA,u] y fun e w'=>e=.returned V/\Below y.heap.size y w':=ad
   have al:∀y:World,Below wr.heap.size wr y->Calls Tryz.prog 33 #[.agg #[.int .i64 kl,.int .i64 xl,.string sl],.string j.op,.agg #[.int .i64 kr,.int .i64 xr,.string sr]] y fun e w'=>e=.returned (.bool (QaH tA.1 j rs[k]))/\Below y.heap.size y w':=ag
   have C1:=fun X V d os h=>Calls.regrown_of (aW X V (Sort.grow (redrawn wr d) os) (below_regrown _ _ _) h)
   have r5:=cell_regrown (show wr.cell? ⟨F,5,none⟩=some (.string j.op) from z 5 _ rfl)
   have r6:=cell_regrown (show wr.cell? ⟨F,6,none⟩=some (.string j.left.1) from z 6 _ rfl)
   have r7:=cell_regrown (show wr.cell? ⟨F,7,none⟩=some (.int .i64 j.left.2.1) from z 7 _ rfl)
   have r8:=cell_regrown (show wr.cell? ⟨F,8,none⟩=some (.int .i64 j.left.2.2.1) from z 8 _ rfl)
   have r9:=cell_regrown (show wr.cell? ⟨F,9,none⟩=some (.string j.left.2.2.2) from z 9 _ rfl)
   have aR:=cell_regrown (show wr.cell? ⟨F,10,none⟩=some (.string j.right.1) from z 10 _ rfl)
   have aV:=cell_regrown (show wr.cell? ⟨F,11,none⟩=some (.int .i64 j.right.2.1) from z 11 _ rfl)
   have aN:=cell_regrown (show wr.cell? ⟨F,12,none⟩=some (.int .i64 j.right.2.2.1) from z 12 _ rfl)
   have aU:=cell_regrown (show wr.cell? ⟨F,13,none⟩=some (.string j.right.2.2.2) from z 13 _ rfl)
   have rA:=cell_regrown a0'
   have aO:=cell_regrown x0
   obtain⟨ua,uc,rfl,-⟩:=aq
   clear ad ag aW aP aT hE ab h6 O U aa E T hO K z a0'
   cases hT:QaH tA.1 j rs[k]
   ·have C2:=fun d os=>Calls.regrown_of (show Calls Tryz.prog 33 #[.agg #[.int .i64 kl,.int .i64 xl,.string sl],.string j.op,.agg #[.int .i64 kr,.int .i64 xr,.string sr]] (Sort.grow (redrawn wr d) os) fun e w'=>e=.returned (.bool false)/\Below (Sort.grow (redrawn wr d) os).heap.size (Sort.grow (redrawn wr d) os) w' from by have:=al (Sort.grow (redrawn wr d) os) (below_regrown _ _ _);rw[hT] at this;exact this)
    have aA:=Hk hT
    clear hT al
    go_wp2
    refine wp_region_quiet_below (by kernel_rfl) (by kernel_rfl) ?_
    repeat(any_goals(first|go_big_quiet_step (first|exact C1 _ _ _ _ (by first|exact Or.inl ⟨rfl,rfl⟩|exact Or.inr ⟨rfl,rfl⟩)|exact C2 _ _)|quiet_step (first|exact C1 _ _ _ _ (by first|exact Or.inl ⟨rfl,rfl⟩|exact Or.inr ⟨rfl,rfl⟩)|exact C2 _ _)))
    refine wpQuiet_nil ?_
    intro _ av
    obtain⟨⟨dq,I⟩,ac⟩:=av
    subst ac
    have D:=below_regrown wr dq I
    clear r5 r6 r7 r8 r9 aR aV aN aU rA aO C1 C2
    have aB:(Sort.grow (redrawn wr dq) I).cell? ⟨q,0,none⟩=_:=cK D (by omega) q0'
    generalize Sort.grow (redrawn wr dq) I=wq at*
    have aX:=D.size
    have Z:=ao.out.1.below D
    have J:=Hk (show Calls Tryz.prog 31 #[.int .i64 1,.slice ua rs[k].length uc,.pointer (some ⟨q,0,none⟩)] wq _ from QkQ q R 1 1 _ wq aB (by decide) (by decide))
    have aS:=ao.out.2.below D
    have ah:=Hk (Ai Z aS)
    clear Z aS
    generalize rs[k].length=un at*
    go_wp2_with (first|(go_at_call 31;refine J.out.mono ?_;rintro e w5 ⟨rfl,az⟩;subst az)|(go_at_fn 31;refine J.out.mono ?_;rintro e w5 ⟨rfl,az⟩;subst az))
    go_roundw
    case rel=>exact⟨k+1,v,us,by omega,by go_num,by rw[Qct ak,aA.out];simpa using ah.out.2,ah.out.1⟩
    case measure=>simp[intOf];omega
   ·have C2:=fun d os=>Calls.regrown_of (show Calls Tryz.prog 33 #[.agg #[.int .i64 kl,.int .i64 xl,.string sl],.string j.op,.agg #[.int .i64 kr,.int .i64 xr,.string sr]] (Sort.grow (redrawn wr d) os) fun e w'=>e=.returned (.bool true)/\Below (Sort.grow (redrawn wr d) os).heap.size (Sort.grow (redrawn wr d) os) w' from by have:=al (Sort.grow (redrawn wr d) os) (below_regrown _ _ _);rw[hT] at this;exact this)
    have aA:=Hk hT
    clear hT al
    go_wp2
    refine wp_region_quiet_below (by kernel_rfl) (by kernel_rfl) ?_
    repeat(any_goals(first|go_big_quiet_step (first|exact C1 _ _ _ _ (by first|exact Or.inl ⟨rfl,rfl⟩|exact Or.inr ⟨rfl,rfl⟩)|exact C2 _ _)|quiet_step (first|exact C1 _ _ _ _ (by first|exact Or.inl ⟨rfl,rfl⟩|exact Or.inr ⟨rfl,rfl⟩)|exact C2 _ _)))
    refine wpQuiet_nil ?_
    intro _ av
    obtain⟨⟨dq,I⟩,ac⟩:=av
    subst ac
    have D:=below_regrown wr dq I
    clear r5 r6 r7 r8 r9 aR aV aN aU rA aO C1 C2
    have aB:(Sort.grow (redrawn wr dq) I).cell? ⟨q,0,none⟩=_:=cK D (by omega) q0'
    generalize Sort.grow (redrawn wr dq) I=wq at*
    have aX:=D.size
    have Z:=ao.out.1.below D
    have J:=Hk (show Calls Tryz.prog 31 #[.int .i64 0,.slice ua rs[k].length uc,.pointer (some ⟨q,0,none⟩)] wq _ from QiQ (w0:=w) (wx:=wq) q R 1 0 W.heap.size ((rs.take k).filter (QaH tA.1 j)) v _ us rs[k] aB (by decide) (by decide) (ao.out.2.below D) aZ.out bc.out.1 (by omega) (by omega) (by omega) (by omega))
    have ah:=Hk Z
    clear Z
    generalize rs[k].length=un at*
    go_wp2_with (first|(go_at_call 31;refine J.out.mono ?_;rintro e w5 ⟨rfl,v',aQ,bg,aL⟩)|(go_at_fn 31;refine J.out.mono ?_;rintro e w5 ⟨rfl,v',aQ,bg,aL⟩))
    go_roundw
    case rel=>exact⟨k+1,v',_,by omega,by go_num,by rw[Qct ak,aA.out];exact aQ,aL mp W rfl ah.out⟩
    case measure=>simp[intOf];omega
  ·obtain rfl:M=k:=by omega
   rw[<-ai.out,List.take_length] at hO
   go_upto_region 69 with fail
   rename_i K2 aM
   have a9:=Hk aM
   clear aM
   go_wp2
   refine a9.out _ _ ?_
   refine Qcn F gc cc q R 1 1 [c] [(rs.filter (QaH tA.1 j))] wr (fun e w'=>Qbf e w' w.heap.size (Qbl 1 [(rs.filter (QaH tA.1 j))]) [(c,(rs.filter (QaH tA.1 j)))]/\Below w.heap.size w w') ?_ ?_ ?_ ?_ ?_ ?_ ?_ ?_ ?_ ?_ ?_ ?_
   ·rfl
   ·rfl
   ·decide
   ·decide
   ·exact(by decide)
   ·exact k1'
   ·exact q0'
   ·exact(N.out.keep K).2.2.2.2.2.2.1
   ·exact(N.out.keep K).2.2.2.2.2.2.2
   ·exact(QfW hO ap)
   ·exact bd.out
   ·exact(Qbf.fin ap)
theorem QkT {w:World} {j:Jb} {ss:List ByteArray} (c:List Cl) {tA tB:Tb} {vcA vcB vrB:Value} (av:j.code=9) {rs:List (List Vl)} (hM:rs.length<=100) (hE:Env w) (ai:j.op.size<=1000000) (h6:inS Qa3 j.op.data.toList=true) (Z:tA.1.length<=100) (ac:Qb3 tA.1 j.left) (ah:Qb3 tA.1 j.right) (E:∀r∈rs,TestOK tA.1 j r):Qco w j ss [c,c] tA tB vcA vcB vrB (rs) (fun e w'=>Qbf e w' w.heap.size (Qbl 9 [(rs.filter (QaH tA.1 j)),(rs.filter (fun r=> !QaH tA.1 j r))]) [(c,(rs.filter (QaH tA.1 j))),(c,(rs.filter (fun r=> !QaH tA.1 j r)))]/\Below w.heap.size w w'):=by
 iterate 317 intro _
 intro I gc cc A Bx q R mp vw v1 W B
 have e1:=B.jb0
 have e2:=B.jgc
 have e3:=B.gA
 have e4:=B.AR
 have e6:=B.BR
 have e5:R<q/\q<mp/\mp<W.heap.size:=by have h1:=B.mR;have h2:=B.qR;have h3:=B.WR;omega
 obtain⟨e5,e7,e8⟩:=e5
 have e9:=B.bel.size
 have k1:W.cell? ⟨I,1,none⟩=some (.int .i64 9):=(B.job 1 (.int .i64 j.code) rfl).trans (by rw[av])
 have a1:=B.a1
 obtain⟨sa,bB,rfl,-⟩:=B.src
 have U:=Hk B
 obtain⟨r0,rf⟩:=B.rows 0 (by simp)
 obtain⟨r1,bi⟩:=B.rows 1 (by simp)
 clear B
 obtain⟨M,aC⟩:∃M,rs.length=M:=⟨_,rfl⟩
 have au:=Hk aC
 rw[aC] at a1 hM
 have bo:=Hk (show∀x∈[(rs.filter (QaH tA.1 j)),(rs.filter (fun r=> !QaH tA.1 j r))],x.length<=100000 from fun x hx=>by
  have h1:=List.length_filter_le (QaH tA.1 j) rs
  have h2:=List.length_filter_le (fun r=> !QaH tA.1 j r) rs
  simp at hx
  rcases hx with rfl|rfl<;>omega)
 have HT:=Hk (Ai hE (Ai ai (Ai h6 (Ai Z (Ai ac (Ai ah E))))))
 clear aC hE ai h6 Z ac ah E
 conv=>arg 2;whnf
 go_wp2
 go_loopw [111] (fun i wr=>∃(k:Nat) (v:Value) (us:List Value) (v1:Value) (ag:List Value),k<=M/\i=.int .i64 k/\OutH w W.heap.size R 0 ((rs.take k).filter (QaH tA.1 j)) v us wr/\OutH w W.heap.size R 1 ((rs.take k).filter (fun r=> !QaH tA.1 j r)) v1 ag wr/\Qbt v v1/\Qbt v1 v/\Keep2 R mp W wr) (fun i _=>M-(intOf i).toNat)
 case atStart=>exact⟨0,.slice none 0 0,[],.slice none 0 0,[],Nat.zero_le _,rfl,⟨r0,rf,World.ownsRow_nil _ _ _ _,QeZ.nil _⟩,⟨r1,bi,World.ownsRow_nil _ _ _ _,QeZ.nil _⟩,fun b h=>by simp[Value.ownBlock] at h,fun b h=>by simp[Value.ownBlock] at h,Keep2.refl _ _ _⟩
 case round=>
  obtain⟨k,v,us,v1,ag,hk,rfl,hO,ay,aZ,aE,T⟩:=hrel
  have az:=(U.out.keep T).1
  have k1':wr.cell? ⟨I,1,none⟩=some (.int .i64 9):=((U.out.keep T).2.1 1 (.int .i64 j.code) rfl).trans (by rw[av])
  have q0':=(U.out.keep T).2.2.2.2.2.1
  have hsz:=T.size
  by_cases hlt:k<M
  ·have br:(k:Int)<(M:Int):=by omega
   have aa:k<rs.length:=by have:=au.out;omega
   obtain⟨b,o,u,rfl,x0,aA⟩:=U.out.row T k aa
   have D:=(U.out.keep T).2.1
   have a0':=(U.out.keep T).2.2.1
   have aW:=Hk aA
   have F:=Hk (Ai T (Ai hO (Ai ay (Ai aZ aE))))
   have a6:=Hk (show((rs.take k).filter (QaH tA.1 j)).length<=100000/\((rs.take k).filter (fun r=> !QaH tA.1 j r)).length<=100000 from⟨Qeh (by have:=au.out;omega),Qeh (by have:=au.out;omega)⟩)
   obtain⟨hE,ai,h6,Z,ac,ah,E⟩:=HT.out
   have ab:=E rs[k] (List.getElem_mem aa)
   have am:∀(X V:Value) (y:World),Below wr.heap.size wr y->(X=aggA j.left/\V=aggV (QaJ tA.1 rs[k] j.left)\/X=aggA j.right/\V=aggV (QaJ tA.1 rs[k] j.right))->Calls Tryz.prog 34 #[X,vcA,u] y fun e w'=>e=.returned V/\Below y.heap.size y w':=by
    intro X V y aH h
    have ax:=Qaa az aH
    rcases h with ⟨rfl,rfl⟩|⟨rfl,rfl⟩
    ·exact QbE _ _ tA.1 rs[k] j.left y (U.out.colsA.below ax) (aA.below ax) Z ab.len ac
    ·exact QbE _ _ tA.1 rs[k] j.right y (U.out.colsA.below ax) (aA.below ax) Z ab.len ah
   have ar:∀y:World,Below wr.heap.size wr y->Calls Tryz.prog 33 #[aggV (QaJ tA.1 rs[k] j.left),.string j.op,aggV (QaJ tA.1 rs[k] j.right)] y fun e w'=>e=.returned (.bool (QaH tA.1 j rs[k]))/\Below y.heap.size y w':=fun y aH=>Qfk j.op _ _ y (hE.below (Qaa az aH)) ai h6 ab.kind ab.s1 ab.s2
   obtain⟨⟨kl,xl,sl⟩,a5⟩:∃q,QaJ tA.1 rs[k] j.left=q:=⟨_,rfl⟩
   obtain⟨⟨kr,xr,sr⟩,a8⟩:∃q,QaJ tA.1 rs[k] j.right=q:=⟨_,rfl⟩
   rw[a5,a8] at am ar
   have bb:∀(X V:Value) (y:World),Below wr.heap.size wr y->(X=aggA j.left/\V=.agg #[.int .i64 kl,.int .i64 xl,.string sl]\/X=aggA j.right/\V=.agg #[.int .i64 kr,.int .i64 xr,.string sr])->Calls Tryz.prog 34 #[X,vcA,u] y fun e w'=>e=.returned V/\Below y.heap.size y w':=am
   have aw:∀y:World,Below wr.heap.size wr y->Calls Tryz.prog 33 #[.agg #[.int .i64 kl,.int .i64 xl,.string sl],.string j.op,.agg #[.int .i64 kr,.int .i64 xr,.string sr]] y fun e w'=>e=.returned (.bool (QaH tA.1 j rs[k]))/\Below y.heap.size y w':=ar
   have C1:=fun X V d os h=>Calls.regrown_of (bb X V (Sort.grow (redrawn wr d) os) (below_regrown _ _ _) h)
   have r5:=cell_regrown (show wr.cell? ⟨I,5,none⟩=some (.string j.op) from D 5 _ rfl)
   have r6:=cell_regrown (show wr.cell? ⟨I,6,none⟩=some (.string j.left.1) from D 6 _ rfl)
   have r7:=cell_regrown (show wr.cell? ⟨I,7,none⟩=some (.int .i64 j.left.2.1) from D 7 _ rfl)
   have r8:=cell_regrown (show wr.cell? ⟨I,8,none⟩=some (.int .i64 j.left.2.2.1) from D 8 _ rfl)
   have r9:=cell_regrown (show wr.cell? ⟨I,9,none⟩=some (.string j.left.2.2.2) from D 9 _ rfl)
   have a7:=cell_regrown (show wr.cell? ⟨I,10,none⟩=some (.string j.right.1) from D 10 _ rfl)
   have ba:=cell_regrown (show wr.cell? ⟨I,11,none⟩=some (.int .i64 j.right.2.1) from D 11 _ rfl)
   have aY:=cell_regrown (show wr.cell? ⟨I,12,none⟩=some (.int .i64 j.right.2.2.1) from D 12 _ rfl)
   have a9:=cell_regrown (show wr.cell? ⟨I,13,none⟩=some (.string j.right.2.2.2) from D 13 _ rfl)
   have rA:=cell_regrown a0'
   have a4:=cell_regrown x0
   obtain⟨ua,uc,rfl,-⟩:=aA
   clear am ar bb a5 a8 hE ai h6 Z ac ah E ab hO T ay aZ aE D a0'
   cases hT:QaH tA.1 j rs[k]
   ·have C2:=fun d os=>Calls.regrown_of (show Calls Tryz.prog 33 #[.agg #[.int .i64 kl,.int .i64 xl,.string sl],.string j.op,.agg #[.int .i64 kr,.int .i64 xr,.string sr]] (Sort.grow (redrawn wr d) os) fun e w'=>e=.returned (.bool false)/\Below (Sort.grow (redrawn wr d) os).heap.size (Sort.grow (redrawn wr d) os) w' from by have:=aw (Sort.grow (redrawn wr d) os) (below_regrown _ _ _);rw[hT] at this;exact this)
    have aj:=Hk hT
    clear hT aw
    go_wp2
    refine wp_region_quiet_below (by kernel_rfl) (by kernel_rfl) ?_
    repeat(any_goals(first|go_big_quiet_step (first|exact C1 _ _ _ _ (by first|exact Or.inl ⟨rfl,rfl⟩|exact Or.inr ⟨rfl,rfl⟩)|exact C2 _ _)|quiet_step (first|exact C1 _ _ _ _ (by first|exact Or.inl ⟨rfl,rfl⟩|exact Or.inr ⟨rfl,rfl⟩)|exact C2 _ _)))
    refine wpQuiet_nil ?_
    intro _ aD
    obtain⟨⟨dq,K⟩,al⟩:=aD
    subst al
    have z:=below_regrown wr dq K
    clear r5 r6 r7 r8 r9 a7 ba aY a9 rA a4 C1 C2
    have aM:(Sort.grow (redrawn wr dq) K).cell? ⟨q,0,none⟩=_:=cK z (by omega) q0'
    generalize Sort.grow (redrawn wr dq) K=wq at*
    have bc:=z.size
    have af:=F.out.1.below z
    have O:=Hk (show Calls Tryz.prog 31 #[.int .i64 1,.slice ua rs[k].length uc,.pointer (some ⟨q,0,none⟩)] wq _ from QiQ (w0:=w) (wx:=wq) q R 2 1 W.heap.size ((rs.take k).filter (fun r=> !QaH tA.1 j r)) v1 _ ag rs[k] aM (by decide) (by decide) (F.out.2.2.1.below z) aW.out a6.out.2 (by omega) (by omega) (by omega) (by omega))
    have N:=Ai (F.out.2.1.below z) F.out.2.2.2.1
    have J:=Hk (Ai af N)
    clear af N
    generalize rs[k].length=un at*
    go_wp2_with (first|(go_at_call 31;refine O.out.mono ?_;rintro e w5 ⟨rfl,v',ae,ak,ad⟩)|(go_at_fn 31;refine O.out.mono ?_;rintro e w5 ⟨rfl,v',ae,ak,ad⟩))
    go_roundw
    case rel=>
     obtain⟨g1,g2⟩:=ak _ _ _ 0 (by decide) J.out.2.1 J.out.2.2
     refine⟨k+1,v,us,v',ag++[Value.slice ua un uc],by omega,by go_num,?_,?_,g2,fun b h h'=>g2 b h' h,ad mp W rfl J.out.1⟩
     ·rw[Qct aa,aj.out];simpa using g1
     ·rw[Qct aa,aj.out];exact ae
    case measure=>simp[intOf];omega
   ·have C2:=fun d os=>Calls.regrown_of (show Calls Tryz.prog 33 #[.agg #[.int .i64 kl,.int .i64 xl,.string sl],.string j.op,.agg #[.int .i64 kr,.int .i64 xr,.string sr]] (Sort.grow (redrawn wr d) os) fun e w'=>e=.returned (.bool true)/\Below (Sort.grow (redrawn wr d) os).heap.size (Sort.grow (redrawn wr d) os) w' from by have:=aw (Sort.grow (redrawn wr d) os) (below_regrown _ _ _);rw[hT] at this;exact this)
    have aj:=Hk hT
    clear hT aw
    go_wp2
    refine wp_region_quiet_below (by kernel_rfl) (by kernel_rfl) ?_
    repeat(any_goals(first|go_big_quiet_step (first|exact C1 _ _ _ _ (by first|exact Or.inl ⟨rfl,rfl⟩|exact Or.inr ⟨rfl,rfl⟩)|exact C2 _ _)|quiet_step (first|exact C1 _ _ _ _ (by first|exact Or.inl ⟨rfl,rfl⟩|exact Or.inr ⟨rfl,rfl⟩)|exact C2 _ _)))
    refine wpQuiet_nil ?_
    intro _ aD
    obtain⟨⟨dq,K⟩,al⟩:=aD
    subst al
    have z:=below_regrown wr dq K
    clear r5 r6 r7 r8 r9 a7 ba aY a9 rA a4 C1 C2
    have aM:(Sort.grow (redrawn wr dq) K).cell? ⟨q,0,none⟩=_:=cK z (by omega) q0'
    generalize Sort.grow (redrawn wr dq) K=wq at*
    have bc:=z.size
    have af:=F.out.1.below z
    have O:=Hk (show Calls Tryz.prog 31 #[.int .i64 0,.slice ua rs[k].length uc,.pointer (some ⟨q,0,none⟩)] wq _ from QiQ (w0:=w) (wx:=wq) q R 2 0 W.heap.size ((rs.take k).filter (QaH tA.1 j)) v _ us rs[k] aM (by decide) (by decide) (F.out.2.1.below z) aW.out a6.out.1 (by omega) (by omega) (by omega) (by omega))
    have N:=Ai (F.out.2.2.1.below z) F.out.2.2.2.2
    have J:=Hk (Ai af N)
    clear af N
    generalize rs[k].length=un at*
    go_wp2_with (first|(go_at_call 31;refine O.out.mono ?_;rintro e w5 ⟨rfl,v',ae,ak,ad⟩)|(go_at_fn 31;refine O.out.mono ?_;rintro e w5 ⟨rfl,v',ae,ak,ad⟩))
    go_roundw
    case rel=>
     obtain⟨g1,g2⟩:=ak _ _ _ 1 (by decide) J.out.2.1 J.out.2.2
     refine⟨k+1,v',us++[Value.slice ua un uc],v1,ag,by omega,by go_num,?_,?_,fun b h h'=>g2 b h' h,g2,ad mp W rfl J.out.1⟩
     ·rw[Qct aa,aj.out];exact ae
     ·rw[Qct aa,aj.out];simpa using g1
    case measure=>simp[intOf];omega
  ·obtain rfl:M=k:=by omega
   rw[<-au.out,List.take_length] at hO ay
   go_upto_region 69 with fail
   rename_i K2 aX
   have bl:=Hk aX
   clear aX
   go_wp2
   refine bl.out _ _ ?_
   refine Qcn I gc cc q R 2 9 [c,c] [(rs.filter (QaH tA.1 j)),(rs.filter (fun r=> !QaH tA.1 j r))] wr (fun e w'=>Qbf e w' w.heap.size (Qbl 9 [(rs.filter (QaH tA.1 j)),(rs.filter (fun r=> !QaH tA.1 j r))]) [(c,(rs.filter (QaH tA.1 j))),(c,(rs.filter (fun r=> !QaH tA.1 j r)))]/\Below w.heap.size w w') ?_ ?_ ?_ ?_ ?_ ?_ ?_ ?_ ?_ ?_ ?_ ?_
   ·rfl
   ·rfl
   ·decide
   ·decide
   ·exact(by decide)
   ·exact k1'
   ·exact q0'
   ·exact(U.out.keep T).2.2.2.2.2.2.1
   ·exact(U.out.keep T).2.2.2.2.2.2.2
   ·exact(QlS hO ay az)
   ·exact bo.out
   ·exact(Qbf.fin az)
end Go.Proofs.YtofidnijfnhpaaaGreatDoor
