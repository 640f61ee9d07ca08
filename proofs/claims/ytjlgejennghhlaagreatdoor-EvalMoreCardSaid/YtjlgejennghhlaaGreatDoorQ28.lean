import Derived.Test.YtjlgejennghhlaaGreatDoorQ01
import Derived.Test.YtjlgejennghhlaaGreatDoorQ21
import Derived.Test.YtjlgejennghhlaaGreatDoorQ10
import Derived.Test.YtjlgejennghhlaaGreatDoorQ27
import Derived.Test.YtjlgejennghhlaaGreatDoorQ08
set_option linter.unusedSimpArgs false
set_option linter.unusedVariables false
set_option linter.unusedSectionVars false
set_option maxRecDepth 1000000
set_option maxHeartbeats 16000000
namespace Go.Proofs.YtjlgejennghhlaaGreatDoor
open Go.RowKit
def Ql7 (x:Vl):List UInt8:=Qb1 x.1 x.2.1 x.2.2.data.toList
def QdJ (r:List Vl):List UInt8:=Lib.join (r.map Ql7) [32]
def Qdg (r:List Vl):List Value:=(r.map fun x=>(⟨(Ql7 x).toArray⟩:ByteArray)).map Value.string
theorem Qju {x:Vl} (h:rvB x=true):(Ql7 x).length<=1000:=by
 have h':=Qa2 (show Qao x.1 x.2.1 x.2.2.data.toList=true from h);unfold Ql7 Qb1;split
 ·exact Nat.le_trans (Lib.itoa_length_le _ (by omega) (by omega)) (by decide)
 ·rw[List.length_cons,List.length_append];simp only[List.length_cons,List.length_nil];omega
theorem Tryz.infoS:(Tryz.prog.info? 9).map (fun i=>(i.zero,i.size,i.bytes))=some (some (.string ⟨#[]⟩),1,16):=by kernel_rfl
theorem one1t (s:ByteArray):∀u∈[Value.string s],u.oneCell'=true:=by intro u h;simp at h;subst h;rfl
theorem Ql8 (b o c:Nat) (r:List Vl) (w:World) (hb:b<w.heap.size) (U:QaR w b o r) (h0:0<r.length) (h6:r.length<=100) (Z:∀x∈r,rvB x=true) (O:Env w):
 Calls Tryz.prog 177 #[.slice (some ⟨b,o,none⟩) r.length c] w fun e w'=>e=.returned (.string ⟨(QdJ r).toArray⟩)/\Below w.heap.size w w':=by
 obtain⟨i0,hi,ai,al,ap⟩:=info_parts Tryz.infoS;have HV:=Hk (Ai U (Ai Z O));clear U Z O;go_enter Tryz.func177,Tryz.ntmps177;go_wp2;go_loopw [3,8] (fun l i wr=>∃k:Nat,k<=r.length/\i=.int .i64 k/\wr.ownsRow w.heap.size 9 1 l k (Qdg (r.take k))/\Below w.heap.size w wr) (fun _ i _=>r.length-(intOf i).toNat)
 case atStart=>exact⟨0,Nat.zero_le _,rfl,World.ownsRow_nil _ _ _ _,Below.refl _ _⟩
 case round=>
  obtain⟨k,hk,rfl,h,D⟩:=hrel;obtain⟨la,lc,rfl⟩:=own_slice h;have HX:=Hk (Ai h D);have aE:=D.size
  by_cases hlt:k<r.length
  ·obtain⟨U,Z,O⟩:=HV.out;obtain⟨e0,e1,e2⟩:=U k hlt;have d0:=cK D hb e0;have d1:=cK D hb e1;have d2:=cK D hb e2;have K:=Qa2 (show Qao r[k].1 r[k].2.1 r[k].2.2.data.toList=true from Z _ (List.getElem_mem hlt));have ar:=Hk (fun W (hW:Below wr.heap.size wr W)=>Qfh r[k].1 r[k].2.1 r[k].2.2 W (by have:=K.1;simp at this;omega) (by omega) (by omega) ((O.below D).below hW));have HT:=Hk (show Qdg (r.take k)++[.string ⟨(Ql7 r[k]).toArray⟩]=Qdg (r.take (k+1)) by rw[List.take_succ_eq_append_getElem hlt];unfold Qdg;rw[List.map_append,List.map_append];rfl);rw[show Ql7 r[k]=Qb1 r[k].1 r[k].2.1 r[k].2.2.data.toList from rfl] at HT;generalize r[k]=x at*;clear h D U Z O e0 e1 e2 K;go_wp2_with (first|(go_at_call 122;refine(ar.out _ (Qaa _ _)).mono ?_;rintro e w1 ⟨rfl,F⟩)|(at_builtin;refine wpList_append_own _ rfl _ _ 44 rfl w.heap.size 9 i0 (.string ⟨#[]⟩) 1 16 Tryz.underlying44 hi ai al ap rfl (by decide) _ _ _ rfl ((owns_below (HX.out.1.alloc _) F).alloc _) ⟨w1.heap.size,0,none⟩ 1 1 [.string ⟨(Qb1 x.1 x.2.1 x.2.2.data.toList).toArray⟩] rfl rfl (news1 _ _ _ _ rfl) (one1t _) ?c3 ?c4 ?c5 ?_))
   case c3=>unfold maxLen;omega
   case c4=>omega
   case c5=>have:=F.size;simp at this⊢;omega
   intro v' w5 I M _;have aq:=F.size;simp at aq;have N:Below w.heap.size w w5:=((bel_then (bel_box HX.out.2 _) F).alloc (by omega) _).grown M (by simp;omega) (fun q hq=>(HX.out.1.lt q hq).1);rw[HT.out] at I;have HF:=Hk (Ai I N);clear I M N;go_wp2;go_roundw
   case rel=>exact⟨k+1,by omega,by go_num,HF.out.1,HF.out.2⟩
   case measure=>simp[intOf];omega
  ·have ao:k=r.length:=by omega
   subst ao;rw[List.take_of_length_le (Nat.le_refl _)] at h;have J:=h;obtain⟨-,⟨-,aH⟩|⟨g,aF,aG,ab,aI,-,ae,hm,-,-⟩⟩:=h
   ·omega
   simp only[Value.slice.injEq,true_and] at ab;obtain⟨rfl,rfl⟩:=ab;have au:=(J.lt g rfl).2;have H:(r.map fun x=>(⟨(Ql7 x).toArray⟩:ByteArray)).length=r.length:=by simp
   have V:(r.map fun x=>(⟨(Ql7 x).toArray⟩:ByteArray)).map (·.data.toList)=r.map Ql7:=by rw[List.map_map];exact List.map_congr_left fun x _=>rfl
   have ac:=Qlv (r.map Ql7) (by simpa using h6) (by
    intro x K;rw[List.mem_map] at K;obtain⟨y,hy,rfl⟩:=K;exact Qju (HV.out.2.1 y hy))
   have hJ:=Tryz.strings_Join g 0 lc (r.map fun x=>(⟨(Ql7 x).toArray⟩:ByteArray)) ⟨#[32]⟩ wr (fun j x K=>by
    have hj:j<r.length:=by have:=(List.getElem?_eq_some_iff.1 K).1;simpa using this
    rw[show 0+j=j by omega,J.cellAt j (by omega)];unfold Qdg;rw[List.getElem?_map,K];rfl) au (by rw[H];omega) (by rw[H];exact ae) (by rw[V];simpa using Nat.le_trans ac (by decide))
   rw[H,V] at hJ;have HJ:=Hk hJ;clear hJ J ac V H;go_wp2_with (go_at_call 194;refine HJ.out.mono ?_;rintro e w1 ⟨rfl,F⟩);go_ret;exact⟨rfl,bel_then HX.out.2 F⟩
theorem QkG (tb F tk tcap:Nat) (vc vr:Value) (cs:List Cl) (rs:List (List Vl)) (j:Jb) (w:World) (nm:ByteArray) (M V cc at_:Nat) (I:j.code=2) (y:j.cols=.slice (some ⟨M,V,none⟩) 1 cc) (am:w.cell? ⟨M,V,none⟩=some (.string nm)) (aw:M<w.heap.size) (ax:Qaq cs nm.data.toList=some at_) (az:∀r∈rs,Qaz (Qb6 cs r j.left).2.1/\Qaz (Qb6 cs r j.right).2.1) (a4:0<tk) (Z:tb<w.heap.size) (t0:w.cell? ⟨tb,F,none⟩=some vc) (t1:w.cell? ⟨tb,F+1,none⟩=some vr)
 (hc:Qax w vc cs) (hr:QaG w vr rs) (h1:1<=cs.length) (h6:cs.length<=100) (hl:∀r∈rs,r.length=cs.length) (ao:rs.length<=100) (K:QdQ cs j.left) (au:QdQ cs j.right):
 Calls Tryz.prog 102 #[.agg j.cells,.slice (some ⟨tb,F,none⟩) tk tcap] w fun e w'=>(((∀r∈rs,Qaz (QiU cs j r))/\∃v1 us1,e=.returned (.tuple #[v1,.slice none 0 0,.nilIface])/\w'.ownsRow w.heap.size 84 1 v1 rs.length us1/\Qab w' w.heap.size us1 (rs.map (Qmc cs j at_)))\/((∃r∈rs,¬Qaz (QiU cs j r))/\e=.returned (.tuple #[.slice none 0 0,.slice none 0 0,QbK 2])))/\Below w.heap.size w w':=by
 have a5:=mkF;have aq:=Hk (fun W (hW:Below w.heap.size w W)=>QhU vr rs cs.length W (hr.below hW) hl h1 h6 ao);have ar:=Hk (fun v us W (hW:Below w.heap.size w W) hsz hv hH hp=>QhX v vc cs rs us j nm M V cc at_ (w.heap.size+1) W hv hH hp (fun W' hW'=>hc.below (hW.trans (hW'.mono (by omega)))) y (fun W' hW'=>((hW.trans (hW'.mono (by omega))).cell (p:=⟨M,V,none⟩) aw).trans am) (Nat.lt_of_lt_of_le aw hW.size) ax h1 h6 hl ao K au az hsz);have htk':(0:Int)<(tk:Int):=by omega
 clear hl K au az ax am;obtain⟨va,ap,rfl,-⟩:=hc;obtain⟨ra,aG,rfl,-⟩:=hr;have al:QaC (w.alloc (.cells j.cells 50)) w.heap.size j:=fun k v hk=>by rw[World.cell?_alloc_at _ _ _ _ rfl];exact hk
 have J:=Hk al;clear al;unfold Jb.cells at J⊢;rw[I,y] at J⊢;have O:=Hk (Ai I y);clear I y
 all_goals
  go_enter Tryz.func102,Tryz.ntmps102;go_wp2_with fail
  go_cut [7,8] (fun p v wx=>∃(ab:Nat) (us:List Value),p=.pointer (some ⟨ab,0,none⟩)/\wx.cell? ⟨ab,0,none⟩=some (.slice va cs.length ap)/\ab<wx.heap.size/\wx.ownsRow (w.heap.size+1) 84 1 v rs.length us/\Qab wx (w.heap.size+1) us rs/\us.Pairwise Apart/\QaC wx w.heap.size j/\Below w.heap.size w wx)
  case first=>
   go_region_held3 (fun w'=>w'.cell? ⟨tb,F,none⟩=some (.slice va cs.length ap)/\w'.cell? ⟨tb,F+1,none⟩=some (.slice ra rs.length aG))
    (first|(go_keep;done)|exact⟨(World.cell?_setCell_other _ _ _ _ (by intro e;simp at e;try omega)).trans k0,(World.cell?_setCell_other _ _ _ _ (by intro e;simp at e;try omega)).trans k1⟩)
    (first|(go_at_call 137;refine(aq.out _ (by first|exact(Qaa _ _).drew|exact(bel_box (Qaa _ _) _).drew)).mono ?_;rintro e w1 ⟨v1,us,rfl,K,ak,aa,H⟩;have D:=bel_then (show Below w.heap.size w _ from(by first|exact(Qaa _ _).drew|exact(bel_box (Qaa _ _) _).drew)) H;have k0:=cK D Z t0;have k1:=cK D Z t1;have a6:tb<w1.heap.size:=Nat.lt_of_lt_of_le Z D.size;(try(have kb:=(H.cell (p:=⟨w.heap.size+1,0,none⟩) (by simp)).trans (show _=some (Value.slice none 0 0) by simp);have kf:=(H.frozen (p:=⟨w.heap.size+1,0,none⟩) (by simp)).trans (show _=false by simp);have kz:w.heap.size+1<w1.heap.size:=by(have:=H.size;simp at this;omega)))))
   all_goals go_wp2_with fail
   all_goals go_meet
   ·have ae:QaC w1 w.heap.size j:=fun k v hk=>(H.cell (p:=⟨w.heap.size,k,none⟩) (by simp)).trans (by simpa using J.out k v hk)
    exact⟨w1.heap.size,us,rfl,by simp,by simp,(own_mono (by simp) K).alloc _,(ak.mono (by simp)).below (Qaa _ _),aa,ae.below (Qaa _ _) (by have:=H.size;simp at this;omega),bel_box D _⟩
   ·have ae:QaC w1 w.heap.size j:=fun k v hk=>(H.cell (p:=⟨w.heap.size,k,none⟩) (by simp;omega)).trans (by simpa using J.out k v hk)
    exact⟨w.heap.size+1,us,rfl,World.cell?_setCell_same _ _ _ kb,by simpa using kz,own_mono (by simp) (ownsRow_setCell_below K (by simp) _),(Qab.set ak (by simp)).mono (by simp),aa,fun k v hk=>(World.cell?_setCell_other _ _ _ _ (by intro e;simp at e)).trans (ae k v hk),D.setCell (by show w.heap.size<=w.heap.size+1;omega) _⟩
  case rest=>
   obtain⟨ab,us,rfl,a3,aU,hv,hH,av,hJ,N⟩:=hcut;have a1:=N.size;have U:=ar.out u8 us wc N (by have:=hJ.lt;omega) hv hH av;have hJ':∀k v,(#[.int .i64 j.at_,.int .i64 2,j.outs,j.ins,.slice (some ⟨M,V,none⟩) 1 cc,.string j.op,.string j.left.1,.int .i64 j.left.2.1,.int .i64 j.left.2.2.1,.string j.left.2.2.2,.string j.right.1,.int .i64 j.right.2.1,.int .i64 j.right.2.2.1,.string j.right.2.2.2,.int .i64 j.retry]:Array Value)[k]? =some v->wc.cell? ⟨w.heap.size,k,none⟩=some v:=by
    have h:=hJ;unfold QaC Jb.cells at h;rw[O.out.1,O.out.2] at h;exact h
   unfold Jb.cells at U;rw[O.out.1,O.out.2] at U;have aK:=Hk U;have j0:wc.cell? ⟨w.heap.size,0,none⟩=some (.int .i64 j.at_):=hJ' 0 _ rfl;have j1:wc.cell? ⟨w.heap.size,1,none⟩=some (.int .i64 2):=hJ' 1 _ rfl;have j2:wc.cell? ⟨w.heap.size,2,none⟩=some j.outs:=hJ' 2 _ rfl;have j3:wc.cell? ⟨w.heap.size,3,none⟩=some j.ins:=hJ' 3 _ rfl;have j4:wc.cell? ⟨w.heap.size,4,none⟩=some (.slice (some ⟨M,V,none⟩) 1 cc):=hJ' 4 _ rfl;have j5:wc.cell? ⟨w.heap.size,5,none⟩=some (.string j.op):=hJ' 5 _ rfl;have j6:wc.cell? ⟨w.heap.size,6,none⟩=some (.string j.left.1):=hJ' 6 _ rfl;have j7:wc.cell? ⟨w.heap.size,7,none⟩=some (.int .i64 j.left.2.1):=hJ' 7 _ rfl;have j8:wc.cell? ⟨w.heap.size,8,none⟩=some (.int .i64 j.left.2.2.1):=hJ' 8 _ rfl;have j9:wc.cell? ⟨w.heap.size,9,none⟩=some (.string j.left.2.2.2):=hJ' 9 _ rfl;have aY:wc.cell? ⟨w.heap.size,10,none⟩=some (.string j.right.1):=hJ' 10 _ rfl;have a2:wc.cell? ⟨w.heap.size,11,none⟩=some (.int .i64 j.right.2.1):=hJ' 11 _ rfl;have aZ:wc.cell? ⟨w.heap.size,12,none⟩=some (.int .i64 j.right.2.2.1):=hJ' 12 _ rfl;have a7:wc.cell? ⟨w.heap.size,13,none⟩=some (.string j.right.2.2.2):=hJ' 13 _ rfl;have a0:wc.cell? ⟨w.heap.size,14,none⟩=some (.int .i64 j.retry):=hJ' 14 _ rfl;have aX:=hJ.lt;have HB:=Hk N;obtain⟨xa,xc,rfl⟩:=own_slice hv;clear N hv hH hJ hJ' av U ar aq J t0 t1;go_wp2_with (go_at_call 142;refine aK.out.mono ?_;rintro e w5 ⟨⟨aJ,rfl,o1,o2⟩|⟨aE,rfl⟩,ay⟩)
   ·go_ret3
    exact⟨Or.inl ⟨aJ,_,us,rfl,own_mono (by omega) o1,o2.mono (by omega)⟩,HB.out.trans (ay.mono (by omega))⟩
   ·go_ret3
    exact⟨Or.inr ⟨aE,rfl⟩,HB.out.trans (ay.mono (by omega))⟩
end Go.Proofs.YtjlgejennghhlaaGreatDoor
namespace Go.Proofs.YtjlgejennghhlaaGreatDoor.Pl
open Go.RowKit Fw
def Qhj (f:Flw) (n:By):Bool:=f.ins.any fun i=>i.name==n
def mkB (f:Flw) (n:By) (k:Nat):Bool:=match f.jobs[k]? with |some j=>j.outs.contains n|none=>false
def QfV (f:Flw) (k:Nat) (done:List Nat):Bool:=match f.jobs[k]? with |some j=>j.ins.all fun n=>Qhj f n||done.any (mkB f n)|none=>false
def Qhk (f:Flw):Nat->List Nat->List Nat->Option (List Nat)
 |0,_,told=>some told
 |g+1,left,told=>match left.findIdx? fun k=>QfV f k told with
  |none=>none
  |some i=>Qhk f g (left.eraseIdx i) (told++[left.getD i 0])
def QjQ (f:Flw):Option (List Nat):=Qhk f f.jobs.length (List.range f.jobs.length) []
def Qaw (f:Flw):List By:=f.ins.map (·.name)++f.jobs.flatMap (·.outs)
theorem Qot {f:Flw} {n:By}:Qhj f n=true↔n∈f.ins.map (·.name):=by
 simp[Qhj,List.any_eq_true,beq_iff_eq]
theorem QpM {f:Flw} {n:By} {k:Nat}:mkB f n k=true↔∃j,f.jobs[k]? =some j/\n∈j.outs:=by
 unfold mkB
 cases h:f.jobs[k]? with
 |none=>simp
 |some j=>simp
theorem QjR {f:Flw} {k:Nat} {y:List Nat}:QfV f k y=true↔∃j,f.jobs[k]? =some j/\∀n∈j.ins,n∈f.ins.map (·.name)\/∃m∈y,∃j',f.jobs[m]? =some j'/\n∈j'.outs:=by
 unfold QfV
 cases h:f.jobs[k]? with
 |none=>simp
 |some j=>
  simp only[List.all_eq_true,Bool.or_eq_true,Qot,List.any_eq_true,QpM,Option.some.injEq,exists_eq_left']
structure Good (f:Flw) (o:List Nat):Prop where
 perm:o.Perm (List.range f.jobs.length)
 ready:∀i (h:i<o.length),QfV f o[i] (o.take i)=true
theorem Good.nodup {f:Flw} {o:List Nat} (h:Good f o):o.Nodup:=h.perm.nodup_iff.2 List.nodup_range
theorem Good.mem {f:Flw} {o:List Nat} (h:Good f o) (k:Nat):k∈o↔k<f.jobs.length:=h.perm.mem_iff.trans List.mem_range
theorem Good.len {f:Flw} {o:List Nat} (h:Good f o):o.length=f.jobs.length:=by rw[h.perm.length_eq,List.length_range]
theorem Qex:∀(l:List Nat) (i:Nat) (h:i<l.length),(([l[i]]:List Nat)++l.eraseIdx i).Perm l
 |[],i,h=>absurd h (by simp)
 |a::r,0,h=>List.Perm.refl _
 |a::r,i+1,h=>by
  have:=Qex r i (by simpa using h);simp only[List.getElem_cons_succ,List.eraseIdx_cons_succ,List.singleton_append];exact(List.Perm.swap a _ _).trans (this.cons a)
theorem QjS (f:Flw):∀(g:Nat) (left told o:List Nat),left.length=g->(told++left).Perm (List.range f.jobs.length)->(∀i (h:i<told.length),QfV f told[i] (told.take i)=true)->Qhk f g left told=some o->Good f o
 |0,left,told,o,hl,hp,hr,h=>by
  obtain rfl:=Option.some.inj h;obtain rfl:=List.length_eq_zero_iff.1 hl;exact⟨by simpa using hp,hr⟩
 |g+1,left,told,o,hl,hp,hr,h=>by
  unfold Qhk at h
  cases hi:left.findIdx? fun k=>QfV f k told with
  |none=>rw[hi] at h;cases h
  |some i=>
   rw[hi] at h;obtain⟨y,D,-⟩:=List.findIdx?_eq_some_iff_getElem.1 hi;have H:left.getD i 0=left[i]:=by simp[List.getD_eq_getElem?_getD,List.getElem?_eq_getElem y]
   refine QjS f g _ _ o (by rw[List.length_eraseIdx_of_lt y];omega) ?_ ?_ h
   ·rw[H,List.append_assoc];refine List.Perm.trans (List.Perm.append_left told ?_) hp;exact Qex left i y
   ·intro q F;rw[List.length_append] at F
    by_cases e:q<told.length
    ·rw[List.getElem_append_left e,List.take_append_of_le_length (by omega)];exact hr q e
    ·have I:q=told.length:=by simp at F;omega
     subst I;rw[List.getElem_append_right (Nat.le_refl _)];simp only[Nat.sub_self,List.getElem_cons_zero];rw[H,List.take_left' rfl];exact D
def QrH (I:List By) (p:List FJob):Prop:=∀p1 j p2,p=p1++j::p2->∀n∈j.ins,n∈I\/∃j'∈p1,n∈j'.outs
theorem QcH {f:Flw} {o:List Nat} (h:QjQ f=some o):Good f o:=QjS f _ _ _ _ (by simp) (by simp) (fun i hi=>absurd hi (by simp)) h
def QbE (f:Flw) (o:List Nat):List FJob:=o.filterMap fun k=>f.jobs[k]?
theorem Good.jobs {f:Flw} {o:List Nat} (h:Good f o):(∀j,j∈QbE f o↔j∈f.jobs)/\QrH (f.ins.map (·.name)) (QbE f o):=by
 constructor
 ·intro j;unfold QbE;rw[List.mem_filterMap];constructor
  ·rintro⟨k,-,H⟩;exact List.mem_of_getElem? H
  ·intro V;obtain⟨k,H,rfl⟩:=List.mem_iff_getElem.1 V;exact⟨k,(h.mem k).2 H,List.getElem?_eq_getElem H⟩
 ·have M:∀i,i<=o.length->QrH (f.ins.map (·.name)) (QbE f (o.take i)):=by
   intro i
   induction i with
   |zero=>intro _ O j p2 e;simp[QbE] at e
   |succ i ih=>
    intro hi O j p2 e n K;have I:i<o.length:=by omega
    have hr:=QjR.1 (h.ready i I);obtain⟨Z,q1,U⟩:=hr;have e2:QbE f (o.take (i+1))=QbE f (o.take i)++[Z]:=by
     unfold QbE;rw[List.take_add_one,List.filterMap_append,List.getElem?_eq_getElem I];simp[q1]
    rw[e2] at e;rcases List.append_eq_append_iff.1 e with ⟨xs,N,D⟩|⟨J,F,y⟩
    ·cases xs with
     |nil=>
      simp at D;obtain⟨rfl,-⟩:=D;refine(U n K).imp id (fun⟨m,hm,j',z1,z2⟩=>⟨j',?_,z2⟩);rw[N,List.append_nil];exact List.mem_filterMap.2 ⟨m,hm,z1⟩
     |cons a xs=>
      simp at D
    ·cases J with
     |nil=>
      simp at y;obtain⟨rfl,-⟩:=y;refine(U n K).imp id (fun⟨m,hm,j',z1,z2⟩=>⟨j',?_,z2⟩);rw[List.append_nil] at F;rw[<-F];exact List.mem_filterMap.2 ⟨m,hm,z1⟩
     |cons b J=>
      rw[List.cons_append] at y;injection y with y hb3;subst y;exact ih (by omega) O j J F n K
  have:=M o.length (Nat.le_refl _);rwa[List.take_length] at this
end Go.Proofs.YtjlgejennghhlaaGreatDoor.Pl
namespace Go.Proofs.YtjlgejennghhlaaGreatDoor.Pl
open Go.RowKit Fw
abbrev Cs:=List (ByteArray×Int)
abbrev CM:=List (By×Cs)
def QbL (m:CM) (n:By):Option Cs:=(m.find? fun x=>x.1==n).map (·.2)
def QaY (l:List (By×Int)):Cs:=l.map fun c=>(ba c.1,c.2)
def QeY (f:Flw):CM:=f.ins.map fun i=>(i.name,QaY i.cols)
def inC (m:CM) (j:FJob):List Cs:=j.ins.map fun n=>(QbL m n).getD []
abbrev keysM (m:CM):List By:=m.map (·.1)
theorem Qey {m:CM} {n:By} (h:n∉keysM m):QbL m n=none:=by
 unfold QbL;rw[List.find?_eq_none.2 (fun x hx=>by
  intro q;exact h (List.mem_map.2 ⟨x,hx,by simpa using q⟩))]
 rfl
theorem Qez {m:CM} {n:By} (h:n∈keysM m):∃x∈m,x.1=n/\QbL m n=some x.2:=by
 unfold QbL
 cases hf:m.find? fun x=>x.1==n with
 |none=>
  obtain⟨x,y,e⟩:=List.mem_map.1 h;exact absurd (by simpa using e) (List.find?_eq_none.1 hf x y)
 |some x=>exact⟨x,List.mem_of_find?_eq_some hf,by simpa using List.find?_some hf,rfl⟩
theorem Qds {m r:CM} {n:By} (h:n∈keysM m):QbL (m++r) n=QbL m n:=by
 unfold QbL;rw[List.find?_append]
 cases hf:m.find? fun x=>x.1==n with
 |none=>
  obtain⟨x,y,e⟩:=List.mem_map.1 h;exact absurd (by simpa using e) (List.find?_eq_none.1 hf x y)
 |some x=>rfl
theorem QfW {m r:CM} {n:By} (h:n∉keysM m):QbL (m++r) n=QbL r n:=by
 have:=Qey h;unfold QbL at this⊢;rw[List.find?_append]
 cases hf:m.find? fun x=>x.1==n with
 |none=>rfl
 |some x=>rw[hf] at this;cases this
theorem QfX {l:List By} {c:Cs} {n:By} (h:n∈l):QbL (l.map fun x=>(x,c)) n=some c:=by
 obtain⟨x,F,-,D⟩:=Qez (m:=l.map fun x=>(x,c)) (n:=n) (by simpa [keysM] using h);obtain⟨y,-,rfl⟩:=List.mem_map.1 F;exact D
theorem Qee {α:Type}:∀(h y:List α),(List.range' h.length y.length).filterMap (fun k=>(h++y)[k]?)=y
 |h,[]=>rfl
 |h,a::r=>by
  have e:(h++a::r)=(h++[a])++r:=by simp
  rw[List.length_cons,List.range'_succ,List.filterMap_cons];have D:(h++a::r)[h.length]? =some a:=by simp
  rw[D];simp only;rw[e];have:=Qee (h++[a]) r;rw[List.length_append,List.length_singleton] at this;rw[this]
theorem Good.perm_jobs {f:Flw} {o:List Nat} (h:Good f o):(QbE f o).Perm f.jobs:=by
 have y:=(h.perm.filterMap (fun k=>f.jobs[k]?));have D:=Qee ([]:List FJob) f.jobs;rw[List.range_eq_range'] at y;have F:List.filterMap (fun k=>f.jobs[k]?) (List.range' 0 f.jobs.length)=f.jobs:=D;rw[F] at y;exact y
section
variable (E:FJob->List Cs->Int) (C:FJob->List Cs->Cs)
def runM:List FJob->CM->Option CM
 |[],m=>some m
 |j::r,m=>if E j (inC m j)=0 then runM r (m++j.outs.map fun n=>(n,C j (inC m j))) else none
def colsO (f:Flw) (o:List Nat):Option CM:=runM E C (QbE f o) (QeY f)
structure Sol (f:Flw) (M:By->Option Cs):Prop where
 ins:∀i∈f.ins,M i.name=some (QaY i.cols)
 jobs:∀j∈f.jobs,E j (j.ins.map fun n=>(M n).getD [])=0/\∀n∈j.outs,M n=some (C j (j.ins.map fun n=>(M n).getD []))
 dom:∀n,n∉Qaw f->M n=none
end
section
variable {E:FJob->List Cs->Int} {C:FJob->List Cs->Cs}
theorem runM_keys:∀{p:List FJob} {m y:CM},runM E C p m=some y->∃r,y=m++r/\keysM r=p.flatMap (·.outs)
 |[],m,y,h=>⟨[],by simpa [runM] using h.symm,rfl⟩
 |j::r,m,y,h=>by
  unfold runM at h
  by_cases he:E j (inC m j)=0
  ·rw[if_pos he] at h;obtain⟨F,rfl,D⟩:=runM_keys h;refine⟨_,List.append_assoc _ _ _,?_⟩;rw[keysM,List.map_append,<-keysM,<-keysM,D];simp[keysM,Function.comp_def]
  ·rw[if_neg he] at h;cases h
theorem runM_at:∀{D:List FJob} {j:FJob} {F:List FJob} {m y:CM},runM E C (D++j::F) m=some y->∃m1,runM E C D m=some m1/\E j (inC m1 j)=0/\∃r,y=(m1++j.outs.map fun n=>(n,C j (inC m1 j)))++r
 |[],j,F,m,y,h=>by
  rw[List.nil_append] at h;unfold runM at h
  by_cases he:E j (inC m j)=0
  ·rw[if_pos he] at h;obtain⟨H,I,-⟩:=runM_keys h;exact⟨m,rfl,he,H,I⟩
  ·rw[if_neg he] at h;cases h
 |a::D,j,F,m,y,h=>by
  rw[List.cons_append] at h;unfold runM at h⊢
  by_cases he:E a (inC m a)=0
  ·rw[if_pos he] at h⊢;exact runM_at h
  ·rw[if_neg he] at h;cases h
theorem keys_ins (f:Flw):keysM (QeY f)=f.ins.map (·.name):=by simp[keysM,QeY,Function.comp_def]
theorem run_sol {f:Flw} {o:List Nat} {m:CM} (hn:(Qaw f).Nodup) (ho:Good f o) (h:colsO E C f o=some m):Sol E C f (QbL m)/\(keysM m).Perm (Qaw f):=by
 unfold colsO at h;obtain⟨hj,U⟩:=ho.jobs;obtain⟨r,hr,hk⟩:=runM_keys h;have y:(keysM m).Perm (Qaw f):=by
  rw[hr,keysM,List.map_append,<-keysM,<-keysM,hk,keys_ins];exact List.Perm.append_left _ (ho.perm_jobs.flatMap_right _)
 have I:(keysM m).Nodup:=y.nodup_iff.2 hn;refine⟨⟨fun i hi=>?_,fun j hjm=>?_,fun n hno=>Qey (fun q=>hno (y.mem_iff.1 q))⟩,y⟩
 ·have F:i.name∈keysM (QeY f):=by rw[keys_ins];exact List.mem_map.2 ⟨i,hi,rfl⟩
  rw[hr,Qds F];obtain⟨x,hx,e1,e2⟩:=Qez F;rw[e2];obtain⟨i',V,rfl⟩:=List.mem_map.1 hx;have J:(f.ins.map (·.name)).Nodup:=(List.nodup_append.1 hn).1;obtain⟨a,ha,rfl⟩:=List.mem_iff_getElem.1 hi;obtain⟨b,hb,rfl⟩:=List.mem_iff_getElem.1 V;have:=(List.getElem_inj (xs:=f.ins.map (·.name)) (i:=b) (j:=a) (h₀:=by simpa using hb) (h₁:=by simpa using ha) J).1 (by simpa using e1);subst this;rfl
 ·obtain⟨Z,p2,hp⟩:=List.append_of_mem ((hj j).2 hjm);rw[hp] at h U;obtain⟨D,h1,h2,r2,N⟩:=runM_at h;obtain⟨r1,ad,O⟩:=runM_keys h1;have K:keysM D=f.ins.map (·.name)++Z.flatMap (·.outs):=by
   rw[ad,keysM,List.map_append,<-keysM,<-keysM,O,keys_ins]
  have ab:∀n∈j.ins,QbL m n=QbL D n:=by
   intro n H;have:n∈keysM D:=by
    rw[K,List.mem_append];exact(U Z j p2 rfl n H).imp id (fun⟨j',a,b⟩=>List.mem_flatMap.2 ⟨j',a,b⟩)
   rw[N,List.append_assoc,Qds this]
  have M:(j.ins.map fun n=>(QbL m n).getD [])=inC D j:=List.map_congr_left (fun n H=>by rw[ab n H]);rw[M];refine⟨h2,fun n hno=>?_⟩;have af:n∉keysM D:=by
   intro q;rw[N,List.append_assoc,keysM,List.map_append,List.map_append] at I;have hd:=(List.nodup_append.1 I).2.2;exact hd n q n (List.mem_append_left _ (by simpa [Function.comp_def] using hno)) rfl
  rw[N,List.append_assoc,QfW af,Qds (by simpa [keysM,Function.comp_def] using hno),QfX hno]
theorem runM_snoc:∀(p:List FJob) (j:FJob) (m:CM),runM E C (p++[j]) m=(runM E C p m).bind fun m1=>if E j (inC m1 j)=0 then some (m1++j.outs.map fun n=>(n,C j (inC m1 j))) else none
 |[],j,m=>by simp[runM]
 |a::p,j,m=>by
  rw[List.cons_append];unfold runM
  by_cases he:E a (inC m a)=0
  ·rw[if_pos he,if_pos he];exact runM_snoc p j _
  ·rw[if_neg he,if_neg he];rfl
theorem sol_run {f:Flw} {o:List Nat} {M:By->Option Cs} (U:Sol E C f M) (ho:Good f o):∃m,colsO E C f o=some m/\(∀n,QbL m n=M n)/\(keysM m).Perm (Qaw f):=by
 obtain⟨hj,Z⟩:=ho.jobs;have aa:∀(H y:List FJob),QbE f o=y++H->∀h,runM E C y (QeY f)=some h->(∀n∈keysM h,QbL h n=M n)->∃m,runM E C (y++H) (QeY f)=some m/\∀n∈keysM m,QbL m n=M n:=by
  intro H
  induction H with
  |nil=>intro y _ h D F;exact⟨h,by simpa using D,F⟩
  |cons j H ih=>
   intro y O h D F;obtain⟨r1,ad,V⟩:=runM_keys D;have N:keysM h=f.ins.map (·.name)++y.flatMap (·.outs):=by
    rw[ad,keysM,List.map_append,<-keysM,<-keysM,V,keys_ins]
   have I:inC h j=j.ins.map fun n=>(M n).getD []:=List.map_congr_left (fun n hnj=>by
    have:n∈keysM h:=by
     rw[N,List.mem_append];rw[O] at Z;exact(Z y j H rfl n hnj).imp id (fun⟨j',a,b⟩=>List.mem_flatMap.2 ⟨j',a,b⟩)
    rw[F n this])
   have ac:j∈f.jobs:=(hj j).1 (by rw[O];simp);obtain⟨q1,q2⟩:=U.jobs j ac;have hs:runM E C (y++[j]) (QeY f)=some (h++j.outs.map fun n=>(n,C j (inC h j))):=by
    rw[runM_snoc,D,Option.bind_some,if_pos (by rw[I];exact q1)]
   have:=ih (y++[j]) (by rw[O];simp) _ hs (fun n hn=>by
    by_cases hm:n∈keysM h
    ·rw[Qds hm];exact F n hm
    ·rw[QfW hm];have J:n∈j.outs:=by
      rw[keysM,List.map_append,List.mem_append] at hn;exact(hn.resolve_left hm)|>fun q=>by simpa [Function.comp_def] using q
     rw[QfX J,I,q2 n J])
   rw[List.append_assoc] at this;exact this
 obtain⟨m,D,F⟩:=aa (QbE f o) [] rfl (QeY f) rfl (fun n hn=>by
  obtain⟨x,hx,e1,e2⟩:=Qez hn;obtain⟨i,hi,rfl⟩:=List.mem_map.1 hx;rw[e2,<-e1];exact(U.ins i hi).symm)
 rw[List.nil_append] at D;obtain⟨r,hr,hk⟩:=runM_keys D;have K:(keysM m).Perm (Qaw f):=by
  rw[hr,keysM,List.map_append,<-keysM,<-keysM,hk,keys_ins];exact List.Perm.append_left _ (ho.perm_jobs.flatMap_right _)
 refine⟨m,D,fun n=>?_,K⟩
 by_cases hn:n∈keysM m
 ·exact F n hn
 ·rw[Qey hn,U.dom n (fun q=>hn (K.mem_iff.2 q))]
theorem Sol.more {f g:Flw} {M:By->Option Cs} {nj:FJob} {nm:By} {c:Cs} (h:Sol E C f M) (N:g.ins=f.ins) (K:g.jobs=nj::f.jobs) (D:nm∉Qaw f) (F:nj.outs=[nm]) (H:∀j∈f.jobs,∀n∈j.ins,n∈Qaw f) (J:nj.ins.map (fun n=>(M n).getD [])=[c]) (O:nm∉nj.ins) (U:E nj [c]=0) (V:C nj [c]=c):
 Sol E C g fun n=>if n=nm then some c else M n:=by
 have I:∀j:FJob,nm∉j.ins->(j.ins.map fun n=>(if n=nm then some c else M n).getD [])=j.ins.map fun n=>(M n).getD []:=fun j y=>List.map_congr_left (fun n hn=>by
  rw[if_neg (by rintro rfl;exact y hn)])
 refine⟨fun i hi2=>?_,fun j y=>?_,fun n hn=>?_⟩
 ·rw[N] at hi2;rw[if_neg (by rintro rfl;exact D (List.mem_append_left _ (List.mem_map.2 ⟨i,hi2,rfl⟩)))];exact h.ins i hi2
 ·rw[K,List.mem_cons] at y;rcases y with rfl|y
  ·rw[I j O,J];refine⟨U,fun n hn=>?_⟩;rw[F,List.mem_singleton] at hn;rw[if_pos hn,V]
  ·rw[I j (fun q=>D (H j y nm q))];obtain⟨Z,q2⟩:=h.jobs j y;refine⟨Z,fun n hn=>?_⟩;rw[if_neg (by rintro rfl;exact D (List.mem_append_right _ (List.mem_flatMap.2 ⟨j,y,hn⟩)))];exact q2 n hn
 ·have e:Qaw g=f.ins.map (·.name)++(nj.outs++f.jobs.flatMap (·.outs)):=by simp[Qaw,N,K]
  rw[e,F] at hn;rw[if_neg (by rintro rfl;exact hn (by simp))];exact h.dom n (fun q=>hn (by
   rcases List.mem_append.1 q with q|q
   ·exact List.mem_append_left _ q
   ·exact List.mem_append_right _ (List.mem_append_right _ q)))
end
theorem Qou {f g:Flw} {nj:FJob} {nm:By} (O:g.ins=f.ins) (I:g.jobs=nj::f.jobs) (J:nm∉Qaw f) (H:nj.outs=[nm]) (D:∀j∈f.jobs,∀n∈j.ins,n∈Qaw f) (k:Nat) (d:List Nat):QfV g (k+1) (0::d.map (·+1))=QfV f k d:=by
 have M:∀n,Qhj g n=Qhj f n:=fun n=>by unfold Qhj;rw[O]
 have N:∀n q,mkB g n (q+1)=mkB f n q:=fun n q=>by unfold mkB;rw[I,List.getElem?_cons_succ]
 unfold QfV;rw[I,List.getElem?_cons_succ]
 cases hj:f.jobs[k]? with
 |none=>rfl
 |some j=>
  simp only;rw[Bool.eq_iff_iff,List.all_eq_true,List.all_eq_true];have F:∀n∈j.ins,(Qhj g n||(0::d.map (·+1)).any (mkB g n))=(Qhj f n||d.any (mkB f n)):=by
   intro n y;have K:mkB g n 0=false:=by
    unfold mkB;rw[I];simp only[List.getElem?_cons_zero,H];have:n≠nm:=by rintro rfl;exact J (D j (List.mem_of_getElem? hj) n y)
    simpa using this
   rw[M,List.any_cons,K,Bool.false_or,List.any_map]
   congr 1
   exact congrArg (fun p=>d.any p) (funext fun q=>N n q)
  exact⟨fun h n y=>by rw[<-F n y];exact h n y,fun h n y=>by rw[F n y];exact h n y⟩
theorem Qh8:∀(l:List Nat) (i:Nat),(l.map (·+1)).eraseIdx i=(l.eraseIdx i).map (·+1)
 |[],i=>by simp
 |a::r,0=>rfl
 |a::r,i+1=>by simp[Qh8 r i]
theorem QjT {f g:Flw} {nj:FJob} {nm:By} (I:g.ins=f.ins) (H:g.jobs=nj::f.jobs) (D:nm∉Qaw f) (y:nj.outs=[nm]) (h:∀j∈f.jobs,∀n∈j.ins,n∈Qaw f):∀(q:Nat) (left told:List Nat),left.length=q->Qhk g q (left.map (·+1)) (0::told.map (·+1))=(Qhk f q left told).map fun o=>0::o.map (·+1)
 |0,left,told,_=>rfl
 |q+1,left,told,hl=>by
  unfold Qhk;rw[List.findIdx?_map];have e:((fun k=>QfV g k (0::told.map (·+1)))∘fun x=>x+1)=fun k=>QfV f k told:=funext fun k=>Qou I H D y h k told
  rw[e]
  cases hx:left.findIdx? fun k=>QfV f k told with
  |none=>rfl
  |some i=>
   obtain⟨F,-,-⟩:=List.findIdx?_eq_some_iff_getElem.1 hx;simp only;have K:(left.map (·+1)).eraseIdx i=(left.eraseIdx i).map (·+1):=Qh8 left i;have J:(left.map (·+1)).getD i 0=left.getD i 0+1:=by
    simp[List.getD_eq_getElem?_getD,List.getElem?_eq_getElem F]
   rw[K,J];have:=QjT I H D y h q (left.eraseIdx i) (told++[left.getD i 0]) (by rw[List.length_eraseIdx_of_lt F];omega);rw[List.map_append] at this;exact this
theorem QmP {f g:Flw} {nj:FJob} {nm:By} (I:g.ins=f.ins) (D:g.jobs=nj::f.jobs) (F:nm∉Qaw f) (y:nj.outs=[nm]) (h:∀j∈f.jobs,∀n∈j.ins,n∈Qaw f) (H:∀n∈nj.ins,n∈f.ins.map (·.name)):QjQ g=(QjQ f).map fun o=>0::o.map (·+1):=by
 unfold QjQ;rw[D,List.length_cons];have J:QfV g 0 []=true:=by
  rw[QjR];exact⟨nj,by rw[D];rfl,fun n hn=>Or.inl (by rw[I];exact H n hn)⟩
 have K:List.range (f.jobs.length+1)=0::(List.range f.jobs.length).map (·+1):=List.range_succ_eq_map;rw[show Qhk g (f.jobs.length+1) (List.range (f.jobs.length+1)) []=Qhk g f.jobs.length ((List.range f.jobs.length).map (·+1)) (0::([]:List Nat).map (·+1)) by
  rw[K,Qhk,List.findIdx?_cons,J];rfl]
 exact QjT I D F y h f.jobs.length (List.range f.jobs.length) [] (by simp)
end Go.Proofs.YtjlgejennghhlaaGreatDoor.Pl
