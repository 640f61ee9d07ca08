import Derived.MapKept
import Derived.Deep.RegionHeld
import Derived.Deep.AppendLies
import Derived.Test.YtofidnijfnhpaaaGreatDoorQ01
import Derived.Test.YtofidnijfnhpaaaGreatDoorQ08
import Derived.Test.YtofidnijfnhpaaaGreatDoorQ41
import Derived.Test.YtofidnijfnhpaaaGreatDoorQ31
import Derived.Test.YtofidnijfnhpaaaGreatDoorQ30
import Derived.Test.YtofidnijfnhpaaaGreatDoorQ40
set_option linter.unusedSimpArgs false
set_option linter.unusedVariables false
set_option linter.unusedSectionVars false
set_option maxRecDepth 1000000
set_option maxHeartbeats 16000000
namespace Go.Proofs.YtofidnijfnhpaaaGreatDoor
open Go.RowKit
theorem QeQ {r:List Vl} {cs:List Cl} (h:Qbm r cs=true) (i:Nat) (o:i<r.length) (j:i<cs.length):r[i].1=cs[i].2/\rvB r[i]=true:=by
 induction r generalizing cs i with
 |nil=>simp at o
 |cons a r ih=>
  cases cs with
  |nil=>simp at j
  |cons c cs=>
   simp only[Qbm,Bool.and_eq_true,beq_iff_eq] at h
   cases i with
   |zero=>exact⟨by simpa using h.1,by simpa using h.2.1⟩
   |succ i=>
    simp only[List.getElem_cons_succ]
    exact ih h.2.2 i (by simpa using o) (by simpa using j)
theorem QjW {x:Vl} (h:rvB x=true):Qau x.2.1:=by
 have:=QbQ h
 exact⟨this.2.1,this.2.2⟩
theorem Qlk {x:Vl} (h:rvB x=true) (o:x.1=1):x=(1,x.2.1,⟨#[]⟩):=by
 obtain⟨k,n,l⟩:=x
 have h':Qat k n l.data.toList=true:=h
 simp only at o
 subst o
 have j:l.data.toList=[]:=by
  unfold Qat at h'
  rw[if_pos rfl] at h'
  simp at h'
  first|exact h'.2.2|exact h'.1|(simp_all)
 obtain⟨⟨d⟩⟩:=l
 simp only at j
 subst j
 rfl
theorem QfS {cs:List Cl} {rs:List (List Vl)} (h:Qan cs rs=true) {x:Ag} (j:QaI cs x=1) (r:List Vl) (q:r∈rs):Qau (QaJ cs r x).2.1:=by
 obtain⟨E,J,y⟩:=Qbh h
 obtain⟨I,F,D,z⟩:=Qar h
 have B:=z r q
 unfold QaI at j
 unfold QaJ
 split at j
 ·rename_i he
  rw[if_pos he]
  split at j
  ·rename_i A;exact QjW A
  ·cases j
 ·rename_i he
  rw[if_neg he]
  cases g:Qak cs x.1.data.toList with
  |none=>rw[g] at j;cases j
  |some i=>
   have o:=Qaj g
   simp only
   rw[List.getElem?_eq_getElem (show i<r.length by omega)]
   exact QjW (QeQ (y r q) i (by omega) o).2
theorem Qfp {cs:List Cl} {x:Ag} (h:QaI cs x=1):Qb3 cs x:=by
 unfold QaI at h
 unfold Qb3
 split at h
 ·rename_i he;exact Or.inl he
 ·cases g:Qak cs x.1.data.toList with
  |none=>rw[g] at h;cases h
  |some i=>exact Or.inr ⟨i,rfl⟩
theorem QfT {cs:List Cl} {j:Jb} {q:List UInt8} (h:Qa8 cs j q=0):∃i,∃hi:Qak cs q=some i,(cs[i]'(Qaj hi)).2=1/\QaI cs j.left=1/\QaI cs j.right=1:=by
 unfold Qa8 at h
 obtain⟨o,g⟩:∃o,Qak cs q=o:=⟨_,rfl⟩
 cases o with
 |none=>rw[g] at h;cases h
 |some i=>
  rw[g] at h
  have y:=Qaj g
  simp only[List.getElem?_eq_getElem y,Option.getD_some] at h
  refine⟨i,g,?_⟩
  split at h
  ·rename_i e;exact e
  ·cases h
end Go.Proofs.YtofidnijfnhpaaaGreatDoor
namespace Go.Proofs.YtofidnijfnhpaaaGreatDoor
open Go.RowKit Go.MapKept
theorem QgT (w:World) (o h:Obj):({w.alloc o with heap:=(w.alloc o).heap.setIfInBounds w.heap.size h}:World)=w.alloc h:=by
 show({w with heap:=(w.heap.push o).setIfInBounds w.heap.size h}:World)={w with heap:=w.heap.push h}
 congr 1
 apply Array.ext_getElem?
 intro k
 rw[Array.getElem?_setIfInBounds,Array.getElem?_push,Array.getElem?_push]
 by_cases hk:w.heap.size=k
 ·subst hk;simp
 ·simp[hk,Ne.symm hk]
theorem QfU (w:World) (j:Array MapEntry) (c:Nat) (k:ByteArray) (v:Int) (H:Nat) (q:w.heap.size=H) (h:Instr.findNow .string (.string k) j.toList 0=some none):
 (Instr.mapUpdate 58 (.map (some H)) (.string k) (.int .i64 v)).run Tryz.prog (w.alloc (.map j c))=.ok () (w.alloc (.map (j.push ⟨.string k,.int .i64 v,c⟩) (c+1))):=by
 subst q
 have o:=(heap_alloc w (.map j c)).1
 have y:IsKey .string (.string k):=trivial
 simp only[Instr.mapUpdate,Sem.run_bind,run_underlying Tryz.underlying58,Go.MapKept.run_getObj_map o,Go.MapKept.run_checkKey Tryz.underlying9 y,Go.MapKept.run_findKey Tryz.underlying9 h,Go.MapKept.run_setObj_map _ o,Result.andThen]
 rw[QgT]
def QkO (x y:Int):Array MapEntry:=#[⟨.string ⟨#[43]⟩,.int .i64 (x+y),0⟩,⟨.string ⟨#[45]⟩,.int .i64 (x-y),1⟩,⟨.string ⟨#[42]⟩,.int .i64 (x*y),2⟩]
theorem QhG (w:World) (op:ByteArray) (x y v:Int) (i:Nat) (H:Nat) (o:w.heap.size=H) (h:Instr.findNow .string (.string op) (QkO x y).toList 0=some (some (i,.int .i64 v))):
 (Instr.lookup 58 (.map (some H)) (.string op) false).run Tryz.prog (w.alloc (.map (QkO x y) 3))=.ok (.int .i64 v) (w.alloc (.map (QkO x y) 3)):=by
 subst o
 have j:=(heap_alloc w (.map (QkO x y) 3)).1
 have q:IsKey .string (.string op):=trivial
 simp[Instr.lookup,Sem.run_bind,run_underlying Tryz.underlying58,Go.MapKept.run_getObj_map j,Go.MapKept.run_checkKey Tryz.underlying9 q,Go.MapKept.run_findKey Tryz.underlying9 h,Result.andThen]
theorem QkP (w:World) (op:ByteArray) (x y:Int) (H:Nat) (o:w.heap.size=H) (j:inS QaF op.data.toList=true):
 (Instr.lookup 58 (.map (some H)) (.string op) false).run Tryz.prog (w.alloc (.map (QkO x y) 3))=.ok (.int .i64 (Qhc op.data.toList x y)) (w.alloc (.map (QkO x y) 3)):=by
 have q:op.data.toList=[43]\/op.data.toList=[45]\/op.data.toList=[42]:=by
  simp[inS,QaF] at j
  rcases j with h|h|h<;>simp[<-h]
 rcases q with h|h|h
 ·obtain rfl:op=⟨#[43]⟩:=Qe3 h
  exact QhG w _ x y (x+y) 0 H o rfl
 ·obtain rfl:op=⟨#[45]⟩:=Qe3 h
  exact QhG w _ x y (x-y) 1 H o rfl
 ·obtain rfl:op=⟨#[42]⟩:=Qe3 h
  exact QhG w _ x y (x*y) 2 H o rfl
theorem QgU {r:List Vl} {i:Nat} (j:i<r.length) {q:Int} (z:r[i]=(1,q,⟨#[]⟩)) (n:Int):(Qai r).set (i*3+1) (.int .i64 n)=Qai (r.set i (1,n,⟨#[]⟩)):=by
 have o:=(Qc0 r i (1,q,⟨#[]⟩)).resolve_right (fun h=>h j)
 have y:=(Qc0 r i (1,n,⟨#[]⟩)).resolve_right (fun h=>h j)
 rw[show r.set i (1,q,⟨#[]⟩)=r by rw[<-z];simp] at o
 rw[y]
 conv=>lhs;rw[o]
 rw[List.set_comm _ _ (show i*3+2≠i*3+1 by omega),List.set_set]
theorem QhH (b o n c K O rc:Nat) (cs:List Cl) (r:List Vl) (j:Jb) (at_:Nat) (q:Int) (w:World) (aE:inS QaF j.op.data.toList=true) (hn:cs.length=n) (bw:n<=40) (bC:n<=c) (hb:b<w.heap.size) (hc:Qas w b o cs) (hsz:∀x∈cs,x.1.size<=maxLen) (ap:K<w.heap.size) (hr:QaK w K O r) (az:∀x∈r,x.2.2.size<=maxLen) (hl:r.length=n) (bu:at_<n) (hq:r[at_]'(by omega)=(1,q,⟨#[]⟩)) (am:Qb3 cs j.left) (aB:Qb3 cs j.right) (D:Qau (QaJ cs r j.left).2.1) (F:Qau (QaJ cs r j.right).2.1):
 Calls Tryz.prog 35 #[.agg j.cells,.slice (some ⟨b,o,none⟩) n c,.slice (some ⟨K,O,none⟩) n rc,.int .i64 at_] w fun e w'=>∃v,e=.returned (.tuple #[v,.bool (decide (Qau (QdA cs j r)))])/\w'.ownsRow w.heap.size 24 3 v n (Qai (Qdk cs j at_ r))/\Below w.heap.size w w':=by
 obtain⟨i0,hi,a7,aO,aR⟩:=info_parts Tryz.infoVal
 have bz:=@run_makeMap Tryz.prog
 have bt:∀(a b c:Value) (V:World),(Instr.field 24 (.agg #[a,b,c]) 1).run Tryz.prog V=.ok b V:=fun _ _ _ _=>by first|rfl|kernel_rfl
 have M:∀(X V:Value) (W:World),Below w.heap.size w W->(X=aggA j.left/\V=aggV (QaJ cs r j.left)\/X=aggA j.right/\V=aggV (QaJ cs r j.right))->Calls Tryz.prog 34 #[X,.slice (some ⟨b,o,none⟩) n c,.slice (some ⟨K,O,none⟩) n rc] W fun e w'=>e=.returned V/\Below W.heap.size W w':=by
  intro X V W I h
  have ar:Qav W (.slice (some ⟨b,o,none⟩) n c) cs:=⟨some ⟨b,o,none⟩,c,by rw[hn],by omega,hsz,Or.inr ⟨b,o,rfl,by have:=I.size;omega,hc.below I hb⟩⟩
  have aq:Qbk W (.slice (some ⟨K,O,none⟩) n rc) r:=⟨some ⟨K,O,none⟩,rc,by rw[hl],az,Or.inr ⟨K,O,rfl,by have:=I.size;omega,hr.below I ap⟩⟩
  rcases h with ⟨rfl,rfl⟩|⟨rfl,rfl⟩
  ·exact QbE _ _ cs r j.left W ar aq (by omega) (by omega) am
  ·exact QbE _ _ cs r j.right W ar aq (by omega) (by omega) aB
 have J:QdA cs j r=Qhc j.op.data.toList (QaJ cs r j.left).2.1 (QaJ cs r j.right).2.1:=rfl
 have al:Qdk cs j at_ r=r.set at_ (1,QdA cs j r,⟨#[]⟩):=rfl
 have ao:=Hk (show(Qai r).set (at_*3+1) (.int .i64 (QdA cs j r))=Qai (Qdk cs j at_ r) by rw[al];exact QgU (by omega) hq _)
 obtain⟨⟨kl,x,sl⟩,aw⟩:∃q,QaJ cs r j.left=q:=⟨_,rfl⟩
 obtain⟨⟨kr,y,sr⟩,aC⟩:∃q,QaJ cs r j.right=q:=⟨_,rfl⟩
 rw[aw] at M J D
 rw[aC] at M J F
 have aI:∀(X V:Value) (W:World),Below w.heap.size w W->(X=aggA j.left/\V=.agg #[.int .i64 kl,.int .i64 x,.string sl]\/X=aggA j.right/\V=.agg #[.int .i64 kr,.int .i64 y,.string sr])->Calls Tryz.prog 34 #[X,.slice (some ⟨b,o,none⟩) n c,.slice (some ⟨K,O,none⟩) n rc] W fun e w'=>e=.returned V/\Below W.heap.size W w':=M
 dsimp only at J D F
 obtain⟨m1,m2⟩:=Qgi D F
 obtain⟨T,ah⟩:∃q,QdA cs j r=q:=⟨_,rfl⟩
 rw[ah] at J ao⊢
 have E:=Qbd w j 28
 have aa:=Qab w (.cells j.cells 28)
 obtain⟨W,I⟩:∃W,W=w.alloc (.cells j.cells 28):=⟨_,rfl⟩
 have bx:W.heap.size=w.heap.size+1:=by rw[I];simp
 rw[<-I] at E aa
 have z5:W.cell? ⟨w.heap.size,5,none⟩=some (.string j.op):=E 5 _ rfl
 have r6:=cell_regrown (show W.cell? ⟨w.heap.size,6,none⟩=some (.string j.left.1) from E 6 _ rfl)
 have r7:=cell_regrown (show W.cell? ⟨w.heap.size,7,none⟩=some (.int .i64 j.left.2.1) from E 7 _ rfl)
 have r8:=cell_regrown (show W.cell? ⟨w.heap.size,8,none⟩=some (.int .i64 j.left.2.2.1) from E 8 _ rfl)
 have r9:=cell_regrown (show W.cell? ⟨w.heap.size,9,none⟩=some (.string j.left.2.2.2) from E 9 _ rfl)
 have aV:=cell_regrown (show W.cell? ⟨w.heap.size,10,none⟩=some (.string j.right.1) from E 10 _ rfl)
 have a5:=cell_regrown (show W.cell? ⟨w.heap.size,11,none⟩=some (.int .i64 j.right.2.1) from E 11 _ rfl)
 have aT:=cell_regrown (show W.cell? ⟨w.heap.size,12,none⟩=some (.int .i64 j.right.2.2.1) from E 12 _ rfl)
 have aZ:=cell_regrown (show W.cell? ⟨w.heap.size,13,none⟩=some (.string j.right.2.2.2) from E 13 _ rfl)
 have C1:=fun X V d os h=>Calls.regrown_of (aI X V (Sort.grow (redrawn W d) os) (Qaa aa (below_regrown _ _ _)) h)
 have HB:=Hk aa
 have HC:=Hk (Ai hr (Ai hl (Ai J (Ai aE (Ai D F)))))
 have av:=Hk (fun V=>Qcq T (-1000000000) 1000000000 V)
 have ac:(decide (-1000000000<=T)&&decide (T<=1000000000))=decide (Qau T):=by rw[Bool.eq_iff_iff,Bool.and_eq_true,decide_eq_true_eq,decide_eq_true_eq,decide_eq_true_eq];exact Iff.rfl
 rw[ac] at av
 have x1:=D.1
 have x2:=D.2
 have y1:=F.1
 have y2:=F.2
 clear E aa hn hc hsz hr az hl hq am aB aI M aw aC J ah al aE D F ac
 unfold Jb.cells at I⊢
 go_enter Tryz.func35,Tryz.ntmps35
 go_wp2
 rw[<-I]
 clear I
 refine wp_region_quiet_below (by kernel_rfl) (by kernel_rfl) ?_
 repeat(any_goals(first|go_big_quiet_step (exact C1 _ _ _ _ (by first|exact Or.inl ⟨rfl,rfl⟩|exact Or.inr ⟨rfl,rfl⟩))|quiet_step (exact C1 _ _ _ _ (by first|exact Or.inl ⟨rfl,rfl⟩|exact Or.inr ⟨rfl,rfl⟩))))
 refine wpQuiet_nil ?_
 intro _ aN
 obtain⟨⟨dq,N⟩,aL⟩:=aN
 subst aL
 have ax:=Hk (Qaa HB.out (below_regrown W dq N))
 have q5:=cell_regrown z5 dq N
 have bg:w.heap.size+1<=(Sort.grow (redrawn W dq) N).heap.size:=by have:=(below_regrown W dq N).size;omega
 clear r6 r7 r8 r9 aV a5 aT aZ C1 HB z5
 generalize Sort.grow (redrawn W dq) N=W5 at*
 have bD:w.heap.size<W5.heap.size:=by omega
 have p1:(Instr.mapUpdate 58 (.map (some W5.heap.size)) (.string ⟨#[43]⟩) (.int .i64 (x+y))).run Tryz.prog (W5.alloc (.map #[] 0))=.ok () (W5.alloc (.map #[⟨.string ⟨#[43]⟩,.int .i64 (x+y),0⟩] 1)):=QfU W5 #[] 0 ⟨#[43]⟩ (x+y) _ rfl rfl
 have p2:(Instr.mapUpdate 58 (.map (some W5.heap.size)) (.string ⟨#[45]⟩) (.int .i64 (x-y))).run Tryz.prog (W5.alloc (.map #[⟨.string ⟨#[43]⟩,.int .i64 (x+y),0⟩] 1))=.ok () (W5.alloc (.map #[⟨.string ⟨#[43]⟩,.int .i64 (x+y),0⟩,⟨.string ⟨#[45]⟩,.int .i64 (x-y),1⟩] 2)):=QfU W5 #[⟨.string ⟨#[43]⟩,.int .i64 (x+y),0⟩] 1 ⟨#[45]⟩ (x-y) _ rfl rfl
 have p3:(Instr.mapUpdate 58 (.map (some W5.heap.size)) (.string ⟨#[42]⟩) (.int .i64 (x*y))).run Tryz.prog (W5.alloc (.map #[⟨.string ⟨#[43]⟩,.int .i64 (x+y),0⟩,⟨.string ⟨#[45]⟩,.int .i64 (x-y),1⟩] 2))=.ok () (W5.alloc (.map (QkO x y) 3)):=QfU W5 #[⟨.string ⟨#[43]⟩,.int .i64 (x+y),0⟩,⟨.string ⟨#[45]⟩,.int .i64 (x-y),1⟩] 2 ⟨#[42]⟩ (x*y) _ rfl rfl
 have p4:(Instr.lookup 58 (.map (some W5.heap.size)) (.string j.op) false).run Tryz.prog (W5.alloc (.map (QkO x y) 3))=.ok (.int .i64 T) (W5.alloc (.map (QkO x y) 3)):=by
  have:=QkP W5 j.op x y _ rfl HC.out.2.2.2.1
  rw[HC.out.2.2.1]
  exact this
 have aG:r.length=n:=HC.out.2.1
 have aD:=Hk (fun oo oo'=>QbX (HC.out.1.below (Qad (Qad ax.out oo) oo') ap))
 have aH:=Hk (fun oo=>QcY (W5.alloc oo) 24 3 w.heap.size (W5.heap.size+1) (by simp) (by omega))
 have ay:=Hk aG
 clear aG
 go_wp2_with (at_builtin;refine wpList_append_own _ rfl _ _ 57 rfl w.heap.size 24 i0 (.agg #[.int .i64 0,.int .i64 0,.string ⟨#[]⟩]) 3 32 Tryz.underlying57 hi a7 aO aR rfl (by decide) _ _ _ rfl (aH.out _) ⟨K,O,none⟩ n rc (Qai r) rfl ?c0 (aD.out _ _) (Qbc r) ?c3 ?c4 ?c5 ?_)
 case c0=>rw[QaZ,ay.out]
 case c3=>unfold maxLen;omega
 case c4=>omega
 case c5=>simp;omega
 intro v' w6 A Z _
 have ad:Below w.heap.size w w6:=(Qad (Qad ax.out _) _).grown Z (by simp;omega) (fun z hz=>by simp[Value.ownBlock] at hz;omega)
 have B:=A
 obtain⟨g,U,rfl,ae,bB⟩:∃g U,v'=.slice (some ⟨g,0,none⟩) n U/\w.heap.size<=g/\g<w6.heap.size:=by
  have aW:=fun q hq=>A.lt q hq
  obtain⟨-,⟨-,bv⟩|⟨g,U,aP,rfl,ae,-⟩⟩:=A
  ·omega
  ·exact⟨g,U,rfl,ae,(aW g rfl).2⟩
 have bA:w6.frozen? ⟨g,at_*3+1,none⟩=false:=by
  obtain⟨-,⟨a6,-⟩|⟨g',a9,aP,aA,-,aU,-,-,-,-⟩⟩:=B
  ·simp at a6
  simp only[Value.slice.injEq,Option.some.injEq,Addr.mk.injEq] at aA
  obtain⟨⟨rfl,-⟩,-,rfl⟩:=aA
  simp[World.frozen?,aU]
 obtain⟨u,hu⟩:∃u,w6.cell? ⟨g,at_*3+1,none⟩=some u:=by
  rw[B.cellAt (at_*3+1) (by omega)]
  exact⟨_,List.getElem?_eq_getElem (by rw[QaZ,ay.out];omega)⟩
 have ag:=(B.stored (at_*3+1) (.int .i64 T)).1
 rw[ao.out] at ag
 have au:=Hk (Ai ag (ad.setCell (p:=⟨g,at_*3+1,none⟩) ae (.int .i64 T)))
 have bj:(at_:Int)<(n:Int):=by omega
 have bm:(0:Int)<=(at_:Int):=by omega
 clear A B Z ag ad p1 p2 p3 p4 aD aH q5
 go_wp2_with (go_at_call 17;refine(av.out _).mono ?_;rintro e w7 ⟨rfl,aS⟩;subst aS)
 go_ret2
 exact⟨_,rfl,au.out.1,au.out.2⟩
theorem QjX (w:World) (u:Value) (t:TypeId) (H:Nat) (o:w.heap.size=H):∀j x,[u][j]? =some x->(w.alloc (.cells #[u] t)).cell? ((⟨H,0,none⟩:Addr).add j)=some x:=by
 intro j x h
 match j,h with
 |0,h=>simp at h;subst h;subst o;simp[Addr.add]
theorem QjY (q R n i B k:Nat) (D E:Option Addr) (A F I:Nat) (us:List Value) (w:World) (hq:w.cell? ⟨q,0,none⟩=some (.slice (some ⟨R,0,none⟩) n n)) (hi:i<n) (hn:n<=100) (hv:w.cell? ⟨R,i,none⟩=some (.slice D k A)) (al:w.frozen? ⟨R,i,none⟩=false)
 (ho:w.ownsRow B 57 1 (.slice D k A) k us) (hk:k<=100000) (hB:B<=w.heap.size) (aB:q<B) (aq:R<B) (aK:q≠R):
 Calls Tryz.prog 31 #[.int .i64 i,.slice E F I,.pointer (some ⟨q,0,none⟩)] w fun e w'=>∃g z w1,e=.returned (.tuple #[])/\w1.ownsRow B 57 1 (.slice (some ⟨g,0,none⟩) (k+1) z) (k+1) (us++[.slice E F I])/\w.grownBy w1 (Value.slice D k A).ownBlock/\w'=w1.setCell ⟨R,i,none⟩ (.slice (some ⟨g,0,none⟩) (k+1) z)/\w1.cell? ⟨R,i,none⟩=some (.slice D k A)/\w1.frozen? ⟨R,i,none⟩=false/\((Value.slice D k A).ownBlock=some g\/w.heap.size<=g):=by
 obtain⟨i0,af,aw,ao,ar⟩:=info_parts Tryz.infoRow
 have hi':(i:Int)<(n:Int):=by omega
 have aJ:q<w.heap.size:=by omega
 have aD:R<w.heap.size:=by omega
 go_enter Tryz.func31,Tryz.ntmps31
 go_wp2_with fail
 refine wp_region_held_drew (S:=fun V=>V.cell? ⟨q,0,none⟩=some (.slice (some ⟨R,0,none⟩) n n)) (by kernel_rfl) (by simpa using hq) (fun hH=>?_)
 refine wpAnyH_take (i:=0) (v:=.slice (some ⟨R,0,none⟩) n n) rfl (by kernel_rfl) (by kernel_rfl) (by kernel_rfl) (fun _ _ _ h=>h) (Or.inl ⟨by rfl,?_⟩) (by assumption) ?_
 ·intro V hV
  go_simp
 simp only[List.getElem_toArray,List.getElem_cons_zero,List.getElem_cons_succ,Act.put,List.setIfInBounds_toArray,List.set_cons_zero,List.set_cons_succ]
 refine wpAnyH_take (i:=1) (v:=.int .i64 (i:Int)) rfl (by kernel_rfl) (by kernel_rfl) (by kernel_rfl) (fun _ _ _ h=>h) (Or.inl ⟨by rfl,?_⟩) (by assumption) ?_
 ·intro V hV
  go_simp
 simp only[List.getElem_toArray,List.getElem_cons_zero,List.getElem_cons_succ,Act.put,List.setIfInBounds_toArray,List.set_cons_zero,List.set_cons_succ]
 refine wpAnyH_take (i:=2) (v:=.slice (some ⟨R,0,none⟩) n n) rfl (by kernel_rfl) (by kernel_rfl) (by kernel_rfl) (fun _ _ _ h=>h) (Or.inl ⟨by rfl,?_⟩) (by assumption) ?_
 ·intro V hV
  go_simp
 simp only[List.getElem_toArray,List.getElem_cons_zero,List.getElem_cons_succ,Act.put,List.setIfInBounds_toArray,List.set_cons_zero,List.set_cons_succ]
 refine wpAnyH_take (i:=3) (v:=.int .i64 (i:Int)) rfl (by kernel_rfl) (by kernel_rfl) (by kernel_rfl) (fun _ _ _ h=>h) (Or.inl ⟨by rfl,?_⟩) (by assumption) ?_
 ·intro V hV
  go_simp
 simp only[List.getElem_toArray,List.getElem_cons_zero,List.getElem_cons_succ,Act.put,List.setIfInBounds_toArray,List.set_cons_zero,List.set_cons_succ]
 refine wpAnyH_take (i:=4) (v:=.pointer (some ⟨R,i,none⟩)) rfl (by kernel_rfl) (by kernel_rfl) (by kernel_rfl) (fun _ _ _ h=>h) (Or.inl ⟨by rfl,?_⟩) (by assumption) ?_
 ·intro V hV
  go_simp
 simp only[List.getElem_toArray,List.getElem_cons_zero,List.getElem_cons_succ,Act.put,List.setIfInBounds_toArray,List.set_cons_zero,List.set_cons_succ]
 refine wpAnyH_take (i:=6) (v:=.slice E F I) rfl (by kernel_rfl) (by kernel_rfl) (by kernel_rfl) (fun _ _ _ h=>h) (Or.inl ⟨by rfl,?_⟩) (by assumption) ?_
 ·intro V hV
  go_simp
 simp only[List.getElem_toArray,List.getElem_cons_zero,List.getElem_cons_succ,Act.put,List.setIfInBounds_toArray,List.set_cons_zero,List.set_cons_succ]
 have ad:=Hk (Qeo (Qad (show Below w.heap.size w w.drew from(Below.refl _ _).drew) (.cells #[.slice E F I] 57)) (Value.slice D k A).ownBlock)
 have O7:=Hk (show(w.drew.alloc (.cells #[.slice E F I] 57)).ownsRow B 57 1 (.slice D k A) k us from Qaf (Qaf ho (show Below w.heap.size w w.drew from(Below.refl _ _).drew)) (Qab w.drew (.cells #[.slice E F I] 57)))
 have q7:(w.drew.alloc (.cells #[.slice E F I] 57)).cell? ⟨q,0,none⟩=some (.slice (some ⟨R,0,none⟩) n n):=ad.out.cell hq (by
  intro e
  obtain⟨-,⟨y,-⟩|⟨g',ac,ag,y,au,-⟩⟩:=ho
  ·rw[y] at e;simp[Value.ownBlock] at e
  ·rw[y] at e;simp[Value.ownBlock] at e;omega)
 have v7:(w.drew.alloc (.cells #[.slice E F I] 57)).cell? ⟨R,i,none⟩=some (.slice D k A):=ad.out.cell hv (by
  intro e
  obtain⟨-,⟨y,-⟩|⟨g',ac,ag,y,au,-⟩⟩:=ho
  ·rw[y] at e;simp[Value.ownBlock] at e
  ·rw[y] at e;simp[Value.ownBlock] at e;omega)
 have v6:w.drew.cell? ⟨R,i,none⟩=some (.slice D k A):=by simpa using hv
 have q6:w.drew.cell? ⟨q,0,none⟩=some (.slice (some ⟨R,0,none⟩) n n):=by simpa using hq
 have am:=Hk (QjX w.drew (.slice E F I) 57 w.heap.size (by simp))
 have ap:Hid (B<=(w.drew.alloc (.cells #[.slice E F I] 57)).heap.size):=hid (by simp;omega)
 have av:Hid (k+1<=maxLen):=hid (Nat.le_trans (Nat.succ_le_succ hk) (by decide))
 have ak:Hid ((k+1)*24<=140737488355328):=hid (by omega)
 have ai:Hid (∀M z J,J.ownsRow B 57 1 (.slice (some ⟨M,0,none⟩) (k+1) z) (k+1) (us++[.slice E F I])->(w.drew.alloc (.cells #[.slice E F I] 57)).grownBy J (Value.slice D k A).ownBlock->w.grownBy J (Value.slice D k A).ownBlock/\J.cell? ⟨q,0,none⟩=some (.slice (some ⟨R,0,none⟩) n n)/\J.cell? ⟨R,i,none⟩=some (.slice D k A)/\J.frozen? ⟨R,i,none⟩=false):=hid (by
  intro M z J o j
  have T:=ad.out.trans j
  have ae:∀b,b<B->some b≠(Value.slice D k A).ownBlock:=by
   intro b hb e
   obtain⟨-,⟨y,-⟩|⟨g',ac,ag,y,au,-⟩⟩:=ho
   ·rw[y] at e;simp[Value.ownBlock] at e
   ·rw[y] at e;simp[Value.ownBlock] at e;omega
  exact⟨T,T.cell hq (ae q aB),T.cell hv (ae R aq),(T.frozen_far ⟨R,i,none⟩ aD (ae R aq)).trans al⟩)
 clear ho al
 refine wpAnyH_ready (rs:=[5,7]) (by kernel_rfl) (by simp) ?_
 refine AllReadyH.cons rfl (fun K hK=>?_) (AllReadyH.cons rfl (fun K hK=>?_) AllReadyH.nil)
 ·go_simp
  refine hK.out _ _ q6 (fun hH=>?_)
  clear hK K
  try simp only[List.getElem_toArray,List.getElem_cons_zero,List.getElem_cons_succ,Act.put,List.setIfInBounds_toArray,List.set_cons_zero,List.set_cons_succ]
  refine wpAnyH_ready (rs:=[7]) (by kernel_rfl) (by simp) ?_
  refine AllReadyH.cons rfl (fun K hK=>?_) AllReadyH.nil
  go_simp
  refine hK.out _ _ q7 (fun hH=>?_)
  clear hK K
  try simp only[List.getElem_toArray,List.getElem_cons_zero,List.getElem_cons_succ,Act.put,List.setIfInBounds_toArray,List.set_cons_zero,List.set_cons_succ]
  refine wpAnyH_ready (rs:=[8]) (by kernel_rfl) (by simp) ?_
  refine AllReadyH.cons rfl (fun K hK=>?_) AllReadyH.nil
  refine step_append_lies _ (by rfl) _ _ _ (by rfl) B 57 i0 _ 1 24 Tryz.underlying34 af aw ao ar rfl (by decide) _ _ _ (by rfl) O7.out ⟨w.heap.size,0,none⟩ 1 1 [.slice E F I] (by rfl) (by rfl) am.out (by intro u hu;simp at hu;subst hu;rfl) (by decide) av.out ak.out ap.out (w.heap.size+1) (by simp) ?_
  intro M z J o j O Z
  obtain⟨T,U,c9,f9⟩:=ai.out M z J o j
  have N:=Hk (Ai o (Ai T (Ai c9 (Ai f9 (show(Value.slice D k A).ownBlock=some M\/w.heap.size<=M from O.imp id (fun h=>by omega))))))
  refine hK.out _ _ U (fun hH=>?_)
  clear hK K o j O Z T
  try simp only[List.getElem_toArray,List.getElem_cons_zero,List.getElem_cons_succ,Act.put,List.setIfInBounds_toArray,List.set_cons_zero,List.set_cons_succ]
  refine wpAnyH_ready (rs:=[9]) (by kernel_rfl) (by simp) ?_
  refine AllReadyH.cons rfl (fun K hK=>?_) AllReadyH.nil
  go_simp
  refine hK.out _ _ U (fun hH=>?_)
  clear hK K
  try simp only[List.getElem_toArray,List.getElem_cons_zero,List.getElem_cons_succ,Act.put,List.setIfInBounds_toArray,List.set_cons_zero,List.set_cons_succ]
  refine wpAnyH_ready (rs:=[10]) (by kernel_rfl) (by simp) ?_
  refine AllReadyH.cons rfl (fun K hK=>?_) AllReadyH.nil
  go_simp
  refine hK.out _ _ ((World.cell?_setCell_other _ _ _ _ (by intro e;simp at e;try omega)).trans U) (fun hH=>?_)
  clear hK K
  try simp only[List.getElem_toArray,List.getElem_cons_zero,List.getElem_cons_succ,Act.put,List.setIfInBounds_toArray,List.set_cons_zero,List.set_cons_succ]
  refine wpAnyH_done (by kernel_rfl) ?_ _
  go_wp2
  go_end0
  exact⟨M,z,J,rfl,N.out.1,N.out.2.1,rfl,N.out.2.2.1,N.out.2.2.2.1,N.out.2.2.2.2⟩
 ·go_simp
  refine hK.out _ _ q7 (fun hH=>?_)
  clear hK K
  try simp only[List.getElem_toArray,List.getElem_cons_zero,List.getElem_cons_succ,Act.put,List.setIfInBounds_toArray,List.set_cons_zero,List.set_cons_succ]
  refine wpAnyH_ready (rs:=[5]) (by kernel_rfl) (by simp) ?_
  refine AllReadyH.cons rfl (fun K hK=>?_) AllReadyH.nil
  go_simp
  refine hK.out _ _ q7 (fun hH=>?_)
  clear hK K
  try simp only[List.getElem_toArray,List.getElem_cons_zero,List.getElem_cons_succ,Act.put,List.setIfInBounds_toArray,List.set_cons_zero,List.set_cons_succ]
  refine wpAnyH_ready (rs:=[8]) (by kernel_rfl) (by simp) ?_
  refine AllReadyH.cons rfl (fun K hK=>?_) AllReadyH.nil
  refine step_append_lies _ (by rfl) _ _ _ (by rfl) B 57 i0 _ 1 24 Tryz.underlying34 af aw ao ar rfl (by decide) _ _ _ (by rfl) O7.out ⟨w.heap.size,0,none⟩ 1 1 [.slice E F I] (by rfl) (by rfl) am.out (by intro u hu;simp at hu;subst hu;rfl) (by decide) av.out ak.out ap.out (w.heap.size+1) (by simp) ?_
  intro M z J o j O Z
  obtain⟨T,U,c9,f9⟩:=ai.out M z J o j
  have N:=Hk (Ai o (Ai T (Ai c9 (Ai f9 (show(Value.slice D k A).ownBlock=some M\/w.heap.size<=M from O.imp id (fun h=>by omega))))))
  refine hK.out _ _ U (fun hH=>?_)
  clear hK K o j O Z T
  try simp only[List.getElem_toArray,List.getElem_cons_zero,List.getElem_cons_succ,Act.put,List.setIfInBounds_toArray,List.set_cons_zero,List.set_cons_succ]
  refine wpAnyH_ready (rs:=[9]) (by kernel_rfl) (by simp) ?_
  refine AllReadyH.cons rfl (fun K hK=>?_) AllReadyH.nil
  go_simp
  refine hK.out _ _ U (fun hH=>?_)
  clear hK K
  try simp only[List.getElem_toArray,List.getElem_cons_zero,List.getElem_cons_succ,Act.put,List.setIfInBounds_toArray,List.set_cons_zero,List.set_cons_succ]
  refine wpAnyH_ready (rs:=[10]) (by kernel_rfl) (by simp) ?_
  refine AllReadyH.cons rfl (fun K hK=>?_) AllReadyH.nil
  go_simp
  refine hK.out _ _ ((World.cell?_setCell_other _ _ _ _ (by intro e;simp at e;try omega)).trans U) (fun hH=>?_)
  clear hK K
  try simp only[List.getElem_toArray,List.getElem_cons_zero,List.getElem_cons_succ,Act.put,List.setIfInBounds_toArray,List.set_cons_zero,List.set_cons_succ]
  refine wpAnyH_done (by kernel_rfl) ?_ _
  go_wp2
  go_end0
  exact⟨M,z,J,rfl,N.out.1,N.out.2.1,rfl,N.out.2.2.1,N.out.2.2.2.1,N.out.2.2.2.2⟩
theorem QkQ (q R n i:Nat) (u:Value) (w:World) (o:w.cell? ⟨q,0,none⟩=some (.slice (some ⟨R,0,none⟩) n n)) (h:n<=i) (j:i<=100):
 Calls Tryz.prog 31 #[.int .i64 i,u,.pointer (some ⟨q,0,none⟩)] w fun e w'=>e=.returned (.tuple #[])/\w'=w:=by
 have hi':¬(i:Int)<(n:Int):=by omega
 have hid':decide ((i:Int)<(n:Int))=false:=decide_eq_false hi'
 go_enter Tryz.func31,Tryz.ntmps31
 go_wp2
 go_end0
 exact⟨rfl,rfl⟩
def QeZ (w0:World) (us:List Value) (rs:List (List Vl)):Prop:=us.length=rs.length/\∀(j:Nat) (h:j<us.length) (h':j<rs.length),Qbk w0 us[j] rs[j]
theorem QeZ.nil (w0:World):QeZ w0 [] []:=⟨rfl,fun j h=>absurd h (by simp)⟩
theorem QeZ.app {w0:World} {us q:List Value} {rs o:List (List Vl)} (h:QeZ w0 us rs) (y:QeZ w0 q o):QeZ w0 (us++q) (rs++o):=by
 refine⟨by simp[h.1,y.1],fun j hj hj'=>?_⟩
 have z:=h.1
 by_cases hlt:j<us.length
 ·rw[List.getElem_append_left hlt,List.getElem_append_left (by omega)]
  exact h.2 j hlt (by omega)
 ·rw[List.getElem_append_right (by omega),List.getElem_append_right (by omega)]
  simp only[List.length_append] at hj hj'
  have:=y.2 (j-us.length) (by omega) (by omega)
  simp only[<-z]
  exact this
theorem QeZ.one {w0:World} {u:Value} {r:List Vl} (h:Qbk w0 u r):QeZ w0 [u] [r]:=⟨rfl,fun j hj hj'=>by
 simp only[List.length_cons,List.length_nil] at hj
 obtain rfl:j=0:=by omega
 exact h⟩
theorem QeZ.below {w0 w:World} {us:List Value} {rs:List (List Vl)} (h:QeZ w0 us rs) (o:Below w0.heap.size w0 w):QeZ w us rs:=⟨h.1,fun j hj hj'=>(h.2 j hj hj').below o⟩
theorem QhI {w:World} {B:Nat} {v:Value} {us:List Value} {rs:List (List Vl)} (h:w.ownsRow B 57 1 v rs.length us) (y:QeZ w us rs):QaC w v rs:=by
 obtain⟨a,c,rfl⟩:=Qae h
 refine⟨a,c,rfl,?_⟩
 rcases Nat.eq_zero_or_pos rs.length with o|o
 ·exact Or.inl (List.length_eq_zero_iff.1 o)
 ·obtain⟨g,E,z,-,D,A⟩:=QaY h o
  simp only[Value.slice.injEq,true_and] at z
  obtain⟨rfl,rfl⟩:=z
  refine Or.inr ⟨g,0,rfl,D,fun j q=>?_⟩
  have hj':j<us.length:=by rw[y.1];exact q
  exact⟨us[j],A j _ (List.getElem?_eq_getElem hj'),y.2 j hj' q⟩
structure OutH (w0:World) (B R i:Nat) (rs:List (List Vl)) (v:Value) (us:List Value) (wr:World):Prop where
 cell:wr.cell? ⟨R,i,none⟩=some v
 frz:wr.frozen? ⟨R,i,none⟩=false
 own:wr.ownsRow B 57 1 v rs.length us
 us:QeZ w0 us rs
structure OutO (B R i:Nat) (rs:List (List Vl)) (v:Value) (us:List Value) (wr:World):Prop where
 cell:wr.cell? ⟨R,i,none⟩=some v
 frz:wr.frozen? ⟨R,i,none⟩=false
 own:wr.ownsRow B 57 1 v rs.length us
 held:Qac wr B us rs
theorem QdC {w:World} {B:Nat} {v:Value} {e:TypeId} {z n:Nat} {j:List Value} {R:Nat} (h:w.ownsRow B e z v n j) (o:R<B):some R≠v.ownBlock:=fun e=>by have:=(h.lt R e.symm).1;omega
theorem QdT {w:World} {B R i:Nat} {u v:Value} {e:TypeId} {z k:Nat} {j:List Value} (h:w.ownsRow B e z v k j) (o:R<B):(w.setCell ⟨R,i,none⟩ u).ownsRow B e z v k j:=h.kept (row:=some R) ⟨rfl,rfl,rfl,by simp,fun k hk hne=>Below.heap_setCell w ⟨R,i,none⟩ u k (fun e=>hne (by rw[e]))⟩ (by
 cases hb:v.ownBlock with
 |none=>exact Or.inl rfl
 |some b=>exact Or.inr (fun e=>by have:=(h.lt b hb).1;injection e with e;omega))
theorem OutH.below {w0 wr j:World} {B R i:Nat} {rs:List (List Vl)} {v:Value} {us:List Value} (h:OutH w0 B R i rs v us wr) (o:Below wr.heap.size wr j):OutH w0 B R i rs v us j:=
 have q:=World.block_lt_of_cell? wr _ h.cell
 ⟨cK o q h.cell,(o.frozen (p:=⟨R,i,none⟩) q).trans h.frz,Qaf h.own o,h.us⟩
theorem OutO.below {wr o:World} {B R i:Nat} {rs:List (List Vl)} {v:Value} {us:List Value} (h:OutO B R i rs v us wr) (j:Below wr.heap.size wr o):OutO B R i rs v us o:=
 have q:=World.block_lt_of_cell? wr _ h.cell
 ⟨cK j q h.cell,(j.frozen (p:=⟨R,i,none⟩) q).trans h.frz,Qaf h.own j,h.held.below j⟩
theorem QiQ {w0 wx:World} (q R n i B:Nat) (rs:List (List Vl)) (v u:Value) (us:List Value) (r:List Vl) (hq:wx.cell? ⟨q,0,none⟩=some (.slice (some ⟨R,0,none⟩) n n)) (hi:i<n) (hn:n<=100) (h:OutH w0 B R i rs v us wx) (hr:Qbk w0 u r) (K:rs.length<=100000) (hB:B<=wx.heap.size) (N:q<B) (j:R<B) (ac:q≠R):
 Calls Tryz.prog 31 #[.int .i64 i,u,.pointer (some ⟨q,0,none⟩)] wx fun e I=>e=.returned (.tuple #[])/\∃v',OutH w0 B R i (rs++[r]) v' (us++[u]) I/\(∀D z y i2,i2≠i->OutH w0 B R i2 z D y wx->Qbt D v->OutH w0 B R i2 z D y I/\Qbt D v')/\∀M E,B=E.heap.size->Keep2 R M E wx->Keep2 R M E I:=by
 have hu:=QeZ.one hr
 obtain⟨ua,uc,rfl,-⟩:=hr
 obtain⟨va,U,rfl⟩:=Qae h.own
 refine(QjY q R n i B rs.length va ua U r.length uc us wx hq hi hn h.cell h.frz h.own K hB N j ac).mono ?_
 rintro e I ⟨g,ab,V,rfl,h1,o,rfl,h4,h5,F⟩
 have ar:wx.heap.size<=V.heap.size:=o.size
 have aq:R<V.heap.size:=by omega
 have J:∀k,(Value.slice va rs.length U).ownBlock=some k->B<=k:=fun k hk=>(h.own.lt k hk).1
 refine⟨rfl,.slice (some ⟨g,0,none⟩) (rs.length+1) ab,⟨World.cell?_setCell_same _ _ _ (by rw[h4]),?_,?_,h.us.app hu⟩,?_,?_⟩
 ·simpa using h5
 ·rw[List.length_append,List.length_singleton]
  exact QdT h1 j
 ·intro D z y i2 au A T
  have O:=QdJ A.own T o
  refine⟨⟨?_,?_,QdT O j,A.us⟩,fun b hb1 hb2=>?_⟩
  ·rw[World.cell?_setCell_other _ _ _ _ (by intro e;simp at e;try omega)]
   exact o.cell A.cell (QdC h.own j)
  ·have:=(o.frozen_far ⟨R,i2,none⟩ (by show R<_;omega) (QdC h.own j)).trans A.frz
   simpa using this
  ·simp only[Value.ownBlock,Option.some.injEq] at hb2
   subst hb2
   rcases F with F|F
   ·exact T g hb1 F
   ·have:=(A.own.lt g hb1).2;omega
 ·intro M E Z hK
  exact(hK.grown o (fun k hk=>Or.inl (by rw[<-Z];exact J k hk))).set i _
theorem QlN {wx:World} (q R n i B:Nat) (rs:List (List Vl)) (v u:Value) (us:List Value) (r:List Vl) (hq:wx.cell? ⟨q,0,none⟩=some (.slice (some ⟨R,0,none⟩) n n)) (Z:i<n) (hn:n<=100) (h:OutO B R i rs v us wx) (O:wx.ownsRow B 24 3 u r.length (Qai r)) (hs:∀x∈r,x.2.2.size<=maxLen) (z:rs.length<=100000) (hB:B<=wx.heap.size) (E:q<B) (j:R<B) (N:q≠R):
 Calls Tryz.prog 31 #[.int .i64 i,u,.pointer (some ⟨q,0,none⟩)] wx fun e A=>e=.returned (.tuple #[])/\∃v',OutO B R i (rs++[r]) v' (us++[u]) A/\∀M o,B=o.heap.size->Keep2 R M o wx->Keep2 R M o A:=by
 have T:=h.held.snoc O hs
 obtain⟨V,uc,rfl⟩:=Qae O
 obtain⟨J,F,rfl⟩:=Qae h.own
 refine(QjY q R n i B rs.length J V F r.length uc us wx hq Z hn h.cell h.frz h.own z hB E j N).mono ?_
 rintro e A ⟨g,K,w1,rfl,h1,D,rfl,U,h5,h6⟩
 have y:∀k,(Value.slice J rs.length F).ownBlock=some k->B<=k:=fun k hk=>(h.own.lt k hk).1
 refine⟨rfl,.slice (some ⟨g,0,none⟩) (rs.length+1) K,⟨World.cell?_setCell_same _ _ _ (by rw[U]),?_,?_,(T.grow h.own D).set j⟩,?_⟩
 ·simpa using h5
 ·rw[List.length_append,List.length_singleton]
  exact QdT h1 j
 ·intro M o I hK
  exact(hK.grown D (fun k hk=>Or.inl (by rw[<-I];exact y k hk))).set i _
theorem Qme {w W:World} {v:Value} {rs:List (List Vl)} (h:QaC w v rs) (z:Below w.heap.size w W):∃a c,v=.slice a rs.length c/\∀(k:Nat) (q:k<rs.length),∃b o u,a=some ⟨b,o,none⟩/\b<w.heap.size/\W.cell? ⟨b,o+k,none⟩=some u/\Qbk w u rs[k]:=by
 obtain⟨a,c,rfl,h⟩:=h
 refine⟨a,c,rfl,fun k q=>?_⟩
 rcases h with rfl|⟨b,o,rfl,j,y⟩
 ·simp at q
 ·obtain⟨u,A,B⟩:=y k q
  exact⟨b,o,u,rfl,j,cK z j A,B⟩
theorem Qbf.lower {e:Ending} {o:World} {B j:Nat} {no:Int} {ts:List Tb} (h:Qbf e o B no ts) (A:j<=B):Qbf e o j no ts:=by
 rcases h with h|⟨q,g,c,z,D,y⟩
 ·exact Or.inl h
 ·exact Or.inr ⟨q,g,c,z,by omega,y⟩
end Go.Proofs.YtofidnijfnhpaaaGreatDoor
