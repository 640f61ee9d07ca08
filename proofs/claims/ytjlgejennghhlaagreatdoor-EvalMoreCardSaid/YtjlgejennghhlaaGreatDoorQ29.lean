import Derived.Test.YtjlgejennghhlaaGreatDoorProg
import Derived.WalkKit
import Derived.Maps.OwnOps
import Derived.Maps.Views
import Derived.Maps.RangeWalk
import Derived.Maps.Keyed
import Derived.WalkSpells
import Derived.WalkLawsBesides
import Derived.Deep.QuietTactic
import Derived.BigQuiet
import Derived.Deep.RegionWith
import Derived.Deep.DeepFit
import Derived.Deep.MidRow
import Derived.Deep.AppendLies
import Derived.Deep.LoopGhost
import Derived.Deep.Cut
import Derived.Deep.DeepCutAuto
import Derived.Deep.RegionLaw
import Derived.Deep.RegionHeld3
import Derived.Lib.QuietBelow
import Derived.Lib.LazyBuf
import Derived.Laws.ResultCell
import Derived.Deep.SlicePairs
import Derived.Deep.Strs
import Derived.Lib.SmallJoins
import Derived.Test.YtjlgejennghhlaaGreatDoorQ01
import Derived.Test.YtjlgejennghhlaaGreatDoorQ13
import Derived.Test.YtjlgejennghhlaaGreatDoorQ27
import Derived.Test.YtjlgejennghhlaaGreatDoorQ08
import Derived.Test.YtjlgejennghhlaaGreatDoorQ06
import Derived.Test.YtjlgejennghhlaaGreatDoorQ28
set_option linter.unusedSimpArgs false
set_option linter.unusedVariables false
set_option linter.unusedSectionVars false
set_option maxRecDepth 1000000
set_option maxHeartbeats 16000000
namespace Go.Proofs.YtjlgejennghhlaaGreatDoor
open Go.RowKit
theorem Qpf {r:List Vl} {cs:List Cl} (h:QaO r cs=true) (i:Nat) (D:i<r.length) (y:i<cs.length):r[i].1=cs[i].2/\rvB r[i]=true:=by
 induction r generalizing cs i with
 |nil=>simp at D
 |cons a r ih=>
  cases cs with
  |nil=>simp at y
  |cons c cs=>
   simp only[QaO,Bool.and_eq_true,beq_iff_eq] at h
   cases i with
   |zero=>exact⟨by simpa using h.1,by simpa using h.2.1⟩
   |succ i=>
    simp only[List.getElem_cons_succ];exact ih h.2.2 i (by simpa using D) (by simpa using y)
theorem Qpg {x:Vl} (h:rvB x=true):Qaz x.2.1:=by
 have:=Qa2 h;exact⟨this.2.1,this.2.2⟩
theorem Qmh {cs:List Cl} {rs:List (List Vl)} (h:Qae cs rs=true) {x:Ag} (y:QbY cs x=1) (r:List Vl) (D:r∈rs):Qaz (Qb6 cs r x).2.1:=by
 obtain⟨U,M,J⟩:=QaI h;obtain⟨N,O,V,H⟩:=Qam h;have K:=H r D;unfold QbY at y;unfold Qb6;split at y
 ·rename_i he
  rw[if_pos he];split at y
  ·rename_i I;exact Qpg I
  ·cases y
 ·rename_i he
  rw[if_neg he]
  cases g:Qaq cs x.1.data.toList with
  |none=>rw[g] at y;cases y
  |some i=>
   have F:=Qap g;simp only;rw[List.getElem?_eq_getElem (show i<r.length by omega)];exact Qpg (Qpf (J r D) i (by omega) F).2
theorem arg_ok {cs:List Cl} {x:Ag} (h:QbY cs x=1):QdQ cs x:=by
 unfold QbY at h;unfold QdQ;split at h
 ·rename_i he;exact Or.inl he
 ·cases g:Qaq cs x.1.data.toList with
  |none=>rw[g] at h;cases h
  |some i=>exact Or.inr ⟨i,rfl⟩
theorem Qe4 {cs:List Cl} {j:Jb} {nm:List UInt8} (h:QbV cs j nm=0):∃i,∃hi:Qaq cs nm=some i,(cs[i]'(Qap hi)).2=1/\QbY cs j.left=1/\QbY cs j.right=1:=by
 unfold QbV at h;obtain⟨o,g⟩:∃o,Qaq cs nm=o:=⟨_,rfl⟩
 cases o with
 |none=>rw[g] at h;cases h
 |some i=>
  rw[g] at h;have y:=Qap g;simp only[List.getElem?_eq_getElem y,Option.getD_some] at h;refine⟨i,g,?_⟩;split at h
  ·rename_i e;exact e
  ·cases h
theorem QfM (J ho K af b o n c y H U:Nat) (cs:List Cl) (nm:ByteArray) (j:Jb) (w:World) (h:j.code=2) (aj:0<K) (ak:J<w.heap.size) (h0:w.cell? ⟨J,ho,none⟩=some (.slice (some ⟨b,o,none⟩) n c)) (hj:j.cols=.slice (some ⟨y,H,none⟩) 1 U) (N:y<w.heap.size) (Z:w.cell? ⟨y,H,none⟩=some (.string nm)) (V:inS Qbr j.op.data.toList=true)
 (hn:cs.length=n) (aa:n<=100) (O:b<w.heap.size) (hc:Qau w b o cs) (hx:j.left.2.2.2.size<=maxLen) (M:j.right.2.2.2.size<=maxLen):
 Calls Tryz.prog 96 #[.agg j.cells,.slice (some ⟨J,ho,none⟩) K af] w fun e w'=>e=.returned (QbK (QbV cs j nm.data.toList))/\Below w.heap.size w w':=by
 have D:=fun W (F:Below w.heap.size w W)=>QiQ b o n c y H U cs nm j W hj (by have:=F.size;omega) (cK F N Z) V hn aa (by have:=F.size;omega) (hc.below F O) hx M
 unfold Jb.cells at D⊢;generalize QbV cs j nm.data.toList=r at*;obtain⟨code,I⟩:∃k,j.code=k:=⟨_,rfl⟩;rw[I] at D h⊢;clear I;subst h;have HT:=Hk D;have htk':(0:Int)<(K:Int):=by omega
 clear D hn hc Z hj;go_enter Tryz.func96,Tryz.ntmps96;go_wp2_with (go_at_call 126;refine(HT.out _ (Qaa _ _)).mono ?_;rintro e w1 ⟨rfl,ae⟩);go_ret;exact⟨rfl,bel_then (Qaa _ _) ae⟩
end Go.Proofs.YtjlgejennghhlaaGreatDoor
namespace Go.Proofs.YtjlgejennghhlaaGreatDoor.Dk
open Go.RowKit Go.Maps
def Rv (v:Value):Option (DataW Value×List MemPlace):=some (.held v,[])
def Sees (D:DataW Value) (m:Lit->Option Value):Prop:=IsMap D/\∀kl,has D kl=(m kl).isSome/\∀z,D.atKey kl z=(match m kl with |some v=>.held v|none=>z)
def MapIs (w:World) (k:TypeId) (b n:Nat) (m:Lit->Option Value):Prop:=∃D:DataW Value,w.ownsMap Tryz.prog k Rv b n D/\Sees D m
open Classical in
noncomputable def putM (m:Lit->Option Value) (kl:Lit) (v:Value):Lit->Option Value:=fun x=>if x=kl then some v else m x
theorem putM_at (m:Lit->Option Value) (h:Lit) (v:Value):putM m h v h=some v:=by simp[putM]
theorem putM_off (m:Lit->Option Value) {y x:Lit} (v:Value) (h:x≠y):putM m y v x=m x:=by simp[putM,h]
theorem Sees.put {D:DataW Value} {m:Lit->Option Value} (h:Sees D m) {y:Lit} (F:WideAt.IsKeyLit y) (v:Value):Sees (D.put y (.held v)) (putM m y v):=by
 refine⟨h.1.put _ _,fun x=>?_⟩
 by_cases e:x=y
 ·subst e;rw[putM_at];exact⟨has_put_same h.1 F _,fun z=>atKey_put_same h.1 F _ z⟩
 ·rw[putM_off m v e];exact⟨(has_put_other e _).trans (h.2 x).1,fun z=>(atKey_put_other e _ z).trans ((h.2 x).2 z)⟩
theorem MapIs.made (w:World) (k:TypeId):MapIs (w.alloc (.map #[] 0)) k w.heap.size 0 (fun _=>none):=⟨.map [],World.ownsMap_made w _ k Rv,isMap_empty,fun kl=>⟨rfl,fun z=>rfl⟩⟩
theorem MapIs.kept {w w':World} {k:TypeId} {b n:Nat} {m:Lit->Option Value} {row:Option Nat} (h:MapIs w k b n m) (H:w.grownBy w' row) (y:some b≠row):MapIs w' k b n m:=by
 obtain⟨D,F,I⟩:=h;exact⟨D,F.kept H y,I⟩
theorem MapIs.block {w w':World} {k:TypeId} {b n:Nat} {m:Lit->Option Value} (h:MapIs w k b n m) (I:w'.heap[b]? =w.heap[b]?):MapIs w' k b n m:=by
 obtain⟨D,⟨es,c,y,F⟩,H⟩:=h;exact⟨D,⟨es,c,I.trans y,F⟩,H⟩
theorem MapIs.lt {w:World} {k:TypeId} {b n:Nat} {m:Lit->Option Value} (h:MapIs w k b n m):b<w.heap.size:=by
 obtain⟨D,y,F⟩:=h;exact y.lt
theorem MapIs.mono {w:World} {k:TypeId} {b n y:Nat} {m:Lit->Option Value} (h:MapIs w k b n m) (H:n<=y):MapIs w k b y m:=by
 obtain⟨D,I,F⟩:=h;exact⟨D,I.mono H,F⟩
theorem MapIs.look {w:World} {k t e:TypeId} {b n:Nat} {m:Lit->Option Value} (h:MapIs w k b n m) (K:Keyed Tryz.prog k) (ht:Tryz.prog.underlying t=some (.map k e)) {z:Value} (hz:(zeroValue e).run Tryz.prog w=.ok z w) {U:Value} {J:Lit} (V:keyOf Tryz.prog k U=some J) (c:Bool):
 (Instr.lookup t (.map (some b)) U c).run Tryz.prog w=.ok (if c then .tuple #[(m J).getD z,.bool (m J).isSome] else(m J).getD z) w:=by
 obtain⟨D,⟨es,aa,hb,F,-,rfl⟩,hs⟩:=h;have N:=(hs.2 J).2;rcases fit_look c K ht hz hb F V with ⟨M,-,H⟩|⟨Z,y,-,-,M,hR,H,-⟩
 ·have:m J=none:=by
   cases hm:m J with
   |none=>rfl
   |some v=>
    have I:=(H (.held (.bool true))).symm.trans (N _);have O:=(H (.held (.bool false))).symm.trans (N _);rw[hm] at I O;have:=I.trans O.symm;simp at this
  rw[M,this];rfl
 ·have hy:y=(.held Z.val,[]):=(Option.some.inj hR).symm;have:m J=some Z.val:=by
   cases hm:m J with
   |none=>
    have I:=(H (.held (.bool true))).symm.trans (N _);have O:=(H (.held (.bool false))).symm.trans (N _);rw[hm] at I O;have:=I.symm.trans O;simp at this
   |some v=>
    have I:=(H (.held (.bool true))).symm.trans (N _);rw[hm,hy] at I;simp at I;rw[I]
  rw[M,this];rfl
theorem MapIs.put {w:World} {k t e:TypeId} {b n:Nat} {m:Lit->Option Value} (h:MapIs w k b n m) (K:Keyed Tryz.prog k) (O:Tryz.prog.underlying t=some (.map k e)) (Z:n<maxLen) {H:Value} {U:Lit} (y:keyOf Tryz.prog k H=some U) (v:Value):
 ∃w',(Instr.mapUpdate t (.map (some b)) H v).run Tryz.prog w=.ok () w'/\MapIs w' k b (n+1) (putM m U v)/\w.grownBy w' (some b)/\w'.heap.size=w.heap.size:=by
 obtain⟨D,N,hs⟩:=h;have h1':=N;obtain⟨es,ab,hb,F,aa,rfl⟩:=N;obtain⟨ah,J,I,-⟩:=fit_store (R':=Rv) K O hb F (Nat.lt_of_le_of_lt aa Z) (fun _ _ _ _ hz=>hz) y (show Rv v=some (.held v,[]) from rfl);obtain⟨w',M,q2,q3⟩:=h1'.update K O Z y (show Rv v=some (.held v,[]) from rfl);refine⟨w',M,⟨_,q2,hs.put (K.key y) v⟩,q3,?_⟩;have e:=(Result.ok.inj (I.symm.trans M)).2;have e2:=congrArg (fun(V:World)=>V.heap.size) e;exact e2.symm.trans (Array.size_setIfInBounds ..)
theorem str_key {k:TypeId} (y:Tryz.prog.underlying k=some .string) (s:ByteArray) (h:s.size<=maxLen):keyOf Tryz.prog k (.string s)=some (.string s.data.toList):=by
 simp[keyOf,y,mapKey,h]
end Go.Proofs.YtjlgejennghhlaaGreatDoor.Dk
namespace Go.Proofs.YtjlgejennghhlaaGreatDoor.Pl.Ev
open Go.RowKit
open Fw (By FJob Flw ba)
abbrev TM:=List (By×Tb)
def Qbh (m:TM) (n:By):Option Tb:=(m.find? fun x=>x.1==n).map (·.2)
abbrev keysT (m:TM):List By:=m.map (·.1)
def inT (m:TM) (j:FJob):List Tb:=j.ins.map fun n=>(Qbh m n).getD ([],[])
theorem Qf0 (a b:TM) (n:By):Qbh (a++b) n=(Qbh a n).or (Qbh b n):=by
 unfold Qbh;rw[List.find?_append]
 cases a.find? fun x=>x.1==n<;>rfl
theorem QeC {m:TM} {n:By} (h:n∉keysT m):Qbh m n=none:=by
 unfold Qbh;rw[List.find?_eq_none.2 (fun x hx=>by
  intro q;exact h (List.mem_map.2 ⟨x,hx,by simpa using q⟩))]
 rfl
theorem Qdu {m:TM} {n:By} (h:n∈keysT m):∃x∈m,x.1=n/\Qbh m n=some x.2:=by
 unfold Qbh
 cases hf:m.find? fun x=>x.1==n with
 |none=>
  obtain⟨x,y,e⟩:=List.mem_map.1 h;exact absurd (by simpa using e) (List.find?_eq_none.1 hf x y)
 |some x=>exact⟨x,List.mem_of_find?_eq_some hf,by simpa using List.find?_some hf,rfl⟩
section
variable (E:FJob->List Tb->Int) (C:FJob->List Tb->By->Tb)
def runN (f:Flw):List Nat->TM->Except (Int×Nat) TM
 |[],m=>.ok m
 |k::r,m=>match f.jobs[k]? with
  |none=>runN f r m
  |some j=>if E j (inT m j)=0 then runN f r (m++j.outs.map fun n=>(n,C j (inT m j) n)) else .error (E j (inT m j),k)
end
section
variable {E:FJob->List Tb->Int} {C:FJob->List Tb->By->Tb}
theorem run_more {f g:Flw} {nm:By} {nj:FJob} (D:g.jobs=nj::f.jobs):∀(o:List Nat) (m y:TM),(∀k∈o,∀j,f.jobs[k]? =some j->nm∉j.ins)->(∀n,n≠nm->Qbh y n=Qbh m n)->
 (match runN E C f o m with
 |.ok r=>∃r2,runN E C g (o.map (·+1)) y=.ok r2/\∀n,n≠nm->Qbh r2 n=Qbh r n
 |.error (e,k)=>runN E C g (o.map (·+1)) y=.error (e,k+1))
 |[],m,y,_,h=>⟨y,rfl,h⟩
 |k::r,m,y,hr,h=>by
  have H:g.jobs[k+1]? =f.jobs[k]?:=by rw[D,List.getElem?_cons_succ]
  rw[List.map_cons];unfold runN;rw[H]
  cases hj:f.jobs[k]? with
  |none=>exact run_more D r m y (fun k' h'=>hr k' (List.mem_cons_of_mem _ h')) h
  |some j=>
   simp only;have F:inT y j=inT m j:=List.map_congr_left fun n hn=>by
    rw[h n (by rintro rfl;exact hr k (by simp) j hj hn)]
   rw[F]
   by_cases he:E j (inT m j)=0
   ·rw[if_pos he,if_pos he];refine run_more D r _ _ (fun k' h'=>hr k' (List.mem_cons_of_mem _ h')) (fun n hn=>?_);rw[Qf0,Qf0,h n hn]
   ·rw[if_neg he,if_neg he]
end
end Go.Proofs.YtjlgejennghhlaaGreatDoor.Pl.Ev
namespace Go.Proofs.YtjlgejennghhlaaGreatDoor.Dk
open Go.RowKit
abbrev Bs:=List UInt8
def bc (l:Bs):List Value:=l.map fun x=>Value.int .u8 (x.toNat:Int)
structure St where
 sure:List Bs
 ws:List (Nat×Bs)
 fuse:Int
def QqA (k:Nat):List (Nat×Bs)->Option Bs
 |[]=>none
 |x::r=>(QqA k r).or (if x.1=k then some x.2 else none)
def St.read (d:St) (k:Nat):Bs:=(QqA k d.ws).getD (d.sure[k]?.getD [])
structure Keep (X:List Nat) (w w':World):Prop where
 os:w'.os=w.os
 tape:w'.tape=w.tape
 output:w'.output=w.output
 size:w.heap.size<=w'.heap.size
 block:∀k,k<w.heap.size->k∉X->w'.heap[k]? =w.heap[k]?
theorem Keep.refl (X:List Nat) (w:World):Keep X w w:=⟨rfl,rfl,rfl,Nat.le_refl _,fun _ _ _=>rfl⟩
theorem Keep.of {X:List Nat} {w w':World} (h:Below w.heap.size w w'):Keep X w w':=⟨h.os,h.tape,h.output,h.size,fun k hk _=>h.block k hk⟩
theorem Keep.then {X Y:List Nat} {a b c:World} (h:Keep X a b) (k:Keep Y b c) (D:∀y∈Y,y∈X\/a.heap.size<=y):Keep X a c:=
 ⟨k.os.trans h.os,k.tape.trans h.tape,k.output.trans h.output,Nat.le_trans h.size k.size,fun i hi hne=>(k.block i (Nat.lt_of_lt_of_le hi h.size) (fun hy=>(D i hy).elim hne (fun q=>by omega))).trans (h.block i hi hne)⟩
theorem Keep.below {X:List Nat} {B:Nat} {w w':World} (h:Keep X w w') (y:∀x∈X,B<=x) (D:B<=w.heap.size):Below B w w':=
 ⟨h.os,h.tape,h.output,h.size,fun k hk=>h.block k (by omega) (fun hx=>by have:=y k hx;omega)⟩
theorem Keep.drew {X:List Nat} {w w':World} (h:Keep X w w'):Keep X w w'.drew:=⟨h.os,h.tape,h.output,h.size,h.block⟩
theorem Keep.set {X:List Nat} {w w':World} (h:Keep X w w') (R o:Nat) (v:Value) (y:R∈X\/w.heap.size<=R):Keep X w (w'.setCell ⟨R,o,none⟩ v):=
 ⟨h.os,h.tape,h.output,by have:=h.size;simp[World.setCell];omega,fun k hk hne=>(Below.heap_setCell _ _ _ _ (by rintro rfl;exact y.elim hne (fun q=>by omega))).trans (h.block k hk hne)⟩
theorem Keep.sets {X:List Nat} {R:Nat}:∀(y:List Value) (o:Nat) {w w':World},Keep X w w'->(R∈X\/w.heap.size<=R)->Keep X w (w'.setCells R o y)
 |[],_,_,_,h,_=>h
 |v::r,o,w,w',h,hR=>by rw[World.setCells];exact Keep.sets r (o+1) (h.set R o v hR) hR
theorem Keep.alloc {X:List Nat} {w w':World} (h:Keep X w w') (o:Obj):Keep X w (w'.alloc o):=
 ⟨h.os,h.tape,h.output,by have:=h.size;simp;omega,fun k hk hne=>(Below.heap_alloc _ _ _ (by have:=h.size;omega)).trans (h.block k hk hne)⟩
theorem Keep.grown {X:List Nat} {w w' D:World} {row:Option Nat} (h:Keep X w w') (y:w'.grownBy D row) (F:∀r,row=some r->r∈X\/w.heap.size<=r):Keep X w D:=
 ⟨y.os.trans h.os,y.tape.trans h.tape,y.output.trans h.output,Nat.le_trans h.size y.size,fun k hk hne=>(y.block k (Nat.lt_of_lt_of_le hk h.size) (fun e=>(F k e.symm).elim hne (fun q=>by omega))).trans (h.block k hk hne)⟩
def Blk (w:World) (k:Nat) (vs:List Value):Prop:=∃T,w.heap[k]? =some (.cells vs.toArray T (0,0))
theorem Blk.lt {w:World} {k:Nat} {D:List Value} (h:Blk w k D):k<w.heap.size:=by
 obtain⟨T,h⟩:=h;rcases Nat.lt_or_ge k w.heap.size with y|y
 ·exact y
 ·rw[Array.getElem?_eq_none y] at h;simp at h
theorem Blk.cell {w:World} {k:Nat} {y:List Value} (h:Blk w k y) (i:Nat) {v:Value} (D:y[i]? =some v):w.cell? ⟨k,i,none⟩=some v:=by
 obtain⟨T,h⟩:=h;simp[World.cell?,h,D]
theorem Blk.fz {w:World} {k:Nat} {y:List Value} (h:Blk w k y) (i:Nat):w.frozen? ⟨k,i,none⟩=false:=by
 obtain⟨T,h⟩:=h;simp[World.frozen?,h]
theorem Blk.range {w:World} {k o:Nat} {y us:List Value} (h:Blk w k y) (D:∀j v,us[j]? =some v->y[o+j]? =some v):w.rangeAt k o us:=fun j v hv=>h.cell _ (D j v hv)
theorem Blk.there {w:World} {k o n:Nat} {y:List Value} (h:Blk w k y) (D:o+n<=y.length):w.there k o n:=fun j hj=>by
 rw[h.cell (o+j) (List.getElem?_eq_getElem (by omega)),h.fz];exact⟨rfl,rfl⟩
theorem Blk.block {w w':World} {k:Nat} {y:List Value} (h:Blk w k y) (D:w'.heap[k]? =w.heap[k]?):Blk w' k y:=by
 obtain⟨T,h⟩:=h;exact⟨T,D.trans h⟩
theorem Blk.below {w w':World} {k:Nat} {y:List Value} (h:Blk w k y) (D:Below w.heap.size w w'):Blk w' k y:=h.block (D.block k h.lt)
theorem Blk.keep {X:List Nat} {w w':World} {k:Nat} {y:List Value} (h:Blk w k y) (F:Keep X w w') (D:k∉X):Blk w' k y:=h.block (F.block k h.lt D)
theorem Blk.grown {w w':World} {row:Option Nat} {k:Nat} {y:List Value} (h:Blk w k y) (F:w.grownBy w' row) (D:some k≠row):Blk w' k y:=h.block (F.block k h.lt D)
theorem Blk.new (w:World) (h:List Value) (T:TypeId) (k:Nat) (y:k=w.heap.size):Blk (w.alloc (.cells h.toArray T)) k h:=by
 subst y;exact⟨T,by show(w.heap.push _)[w.heap.size]? =_;simp⟩
theorem Blk.alloc {w:World} {k:Nat} {y:List Value} (h:Blk w k y) (o:Obj):Blk (w.alloc o) k y:=h.block (Below.heap_alloc _ _ _ h.lt)
theorem Blk.set {w:World} {k:Nat} {y:List Value} (h:Blk w k y) (i:Nat) (v:Value):Blk (w.setCell ⟨k,i,none⟩ v) k (y.set i v):=by
 obtain⟨T,h⟩:=h;exact⟨T,by simp[World.setCell,Array.getElem?_modify,h]⟩
theorem Blk.other {w:World} {k k':Nat} {y:List Value} (h:Blk w k y) (i:Nat) (v:Value) (D:k≠k'):Blk (w.setCell ⟨k',i,none⟩ v) k y:=h.block (Below.heap_setCell _ _ _ _ D)
def QpQ (vs:List Value):Nat->List Value->List Value
 |_,[]=>vs
 |o,u::r=>QpQ (vs.set o u) (o+1) r
theorem Blk.sets {k:Nat}:∀(us:List Value) (o:Nat) {w:World} {y:List Value},Blk w k y->Blk (w.setCells k o us) k (QpQ y o us)
 |[],_,_,_,h=>h
 |u::r,o,w,y,h=>by rw[World.setCells,QpQ];exact Blk.sets r (o+1) (h.set o u)
def blocks (D S:Nat) (vw:Value):List Nat:=D::S::vw.ownBlock.toList
theorem hid {p:Prop} (h:p):Hid p:=h
theorem ret_bool {a b:Bool} (h:a=b):Ending.returned (.bool a)=.returned (.bool b):=by rw[h]
def Lst (w:World) (v:Value) (xs:List Value):Prop:=∃a c,v=.slice a xs.length c/\(xs=[]\/∃b o,a=some ⟨b,o,none⟩/\b<w.heap.size/\w.rangeAt b o xs)
theorem Lst.mv {w w':World} {v:Value} {xs:List Value} (h:Lst w v xs) (y:w.heap.size<=w'.heap.size) (F:∀k,v.ownBlock=some k->w'.heap[k]? =w.heap[k]?):Lst w' v xs:=by
 obtain⟨a,c,rfl,h⟩:=h;refine⟨a,c,rfl,?_⟩;rcases h with h|⟨b,o,rfl,D,H⟩
 ·exact Or.inl h
 ·exact Or.inr ⟨b,o,rfl,Nat.lt_of_lt_of_le D y,fun j v hv=>(World.cell?_of_block (w:=w) (F b rfl)).trans (H j v hv)⟩
theorem Lst.below {w w':World} {v:Value} {xs:List Value} (h:Lst w v xs) (D:Below w.heap.size w w'):Lst w' v xs:=by
 obtain⟨a,c,rfl,h⟩:=h;refine⟨a,c,rfl,?_⟩;rcases h with h|⟨b,o,rfl,y,F⟩
 ·exact Or.inl h
 ·exact Or.inr ⟨b,o,rfl,Nat.lt_of_lt_of_le y D.size,fun j v hv=>(D.cell (p:=⟨b,o+j,none⟩) y).trans (F j v hv)⟩
theorem Lst.keep {X:List Nat} {w w':World} {v:Value} {xs:List Value} (h:Lst w v xs) (D:Keep X w w') (F:∀k∈X,v.ownBlock≠some k\/w.heap.size<=k):Lst w' v xs:=by
 obtain⟨a,c,rfl,h⟩:=h;refine⟨a,c,rfl,?_⟩;rcases h with h|⟨b,o,rfl,y,H⟩
 ·exact Or.inl h
 ·exact Or.inr ⟨b,o,rfl,Nat.lt_of_lt_of_le y D.size,fun j v hv=>(World.cell?_of_block (w:=w) (a:=⟨b,o+j,none⟩) (D.block b y (fun q=>by rcases F b q with q|q;exact q rfl;omega))).trans (H j v hv)⟩
theorem Lst.at {w:World} {a:Option Addr} {n c:Nat} {xs:List Value} (h:Lst w (.slice a n c) xs) (y:0<n):n=xs.length/\∃b o,a=some ⟨b,o,none⟩/\b<w.heap.size/\w.rangeAt b o xs:=by
 obtain⟨D,F,e,h⟩:=h;injection e with e1 e2 e3;subst e1 e2 e3;rcases h with rfl|h
 ·simp at y
 ·exact⟨rfl,h⟩
def bl (l:List Bool):List Value:=l.map Value.bool
end Go.Proofs.YtjlgejennghhlaaGreatDoor.Dk
namespace Go.Proofs.YtjlgejennghhlaaGreatDoor
open Go.ChangeShapes Go.WideShapes Go.ChangeAt Go.RowKit Go.Joins Go.Deep Go.Deep Go.Deep
theorem QeD {W:World} {a:Addr} {v:Value} (h:W.cell? (a.add 0)=some v):∃b o,a=⟨b,o,none⟩:=by
 obtain⟨b,o,s⟩:=a;have y:s=none:=by simpa [Addr.add] using World.cell?_spot h
 exact⟨b,o,by rw[y]⟩
theorem Qna {H:Type} {enc:TypeId×Value->H} {W:World} {n:Nat} {v:Value} {x:DataW H×List MemPlace} (h:DataW.trod enc Tryz.prog W 0 (fun _=>true) true n 51 [v]=some x):∃cs,Qax W v cs:=by
 rcases open_slice_pairs Tryz.underlying51 Tryz.underlying64 (by kernel_rfl) rfl rfl (by kernel_rfl) (by kernel_rfl) h with ⟨F,-⟩|⟨a,len,D,m,k,V0,V1,D0,D1,P0,P1,F,-,hl,hm,M,-,K⟩
 ·exact⟨[],none,0,by simpa using F,Nat.le_refl _,by simp,Or.inl rfl⟩
 ·have hmm':m=D:=by simpa using M
  have J:∀i,i<len->∃q:ByteArray×Int,V0 i=.string q.1/\V1 i=.int .i64 q.2/\q.1.size<=maxLen:=by
   intro i V;obtain⟨-,-,g0,g1⟩:=K i (by omega);obtain⟨s,Z,-,w0⟩:=DataW.trod_string Tryz.underlying9 g0;obtain⟨k,e1,-,w1⟩:=DataW.trod_int Tryz.underlying3 g1;exact⟨(s,k),by simpa using Z,by simpa using e1,w0⟩
  obtain⟨q,I⟩:=choose_lt J;refine⟨(List.range len).map q,some a,D,by simpa using F,by simpa using hl,?_,?_⟩
  ·intro y U;rw[List.mem_map] at U;obtain⟨i,V,rfl⟩:=U;exact(I i (List.mem_range.1 V)).2.2
  ·by_cases hz:len=0
   ·exact Or.inl (by rw[hz];rfl)
   ·have c0:=(K 0 (by omega)).1;rw[Nat.zero_mul] at c0;obtain⟨b,o,rfl⟩:=QeD c0;refine Or.inr ⟨b,o,rfl,World.block_lt_of_cell? W _ c0,fun j hj=>?_⟩;rw[List.length_map,List.length_range] at hj;obtain⟨O,N,-,-⟩:=K j (by omega);rw[add_plain] at O N;simp only[List.getElem_map,List.getElem_range];exact⟨by rw[O,(I j hj).1],by rw[Nat.add_assoc,N,(I j hj).2.1]⟩
end Go.Proofs.YtjlgejennghhlaaGreatDoor
