import Derived.Maps.OwnSet
import Derived.Test.YtjlgejennghhlaaGreatDoorQ01
import Derived.Test.YtjlgejennghhlaaGreatDoorQ40
import Derived.Test.YtjlgejennghhlaaGreatDoorQ41
import Derived.Test.YtjlgejennghhlaaGreatDoorQ29
set_option linter.unusedSimpArgs false
set_option linter.unusedVariables false
set_option linter.unusedSectionVars false
set_option maxRecDepth 1000000
set_option maxHeartbeats 16000000
namespace Go.Proofs.YtjlgejennghhlaaGreatDoor.Pl
open Go.RowKit
open Fw (By FJob Flw ba Qck QbH zeroJ)
structure Fine (f:Flw):Prop where
 cols:∀i∈f.ins,Qai (QaY i.cols)=true
 nodup:(Qaw f).Nodup
 reads:∀j∈f.jobs,∀n∈j.ins,n∈Qaw f
 outs:∀o∈f.outs,o.from_∈Qaw f
 told:(f.outs.map (·.name)).Nodup
theorem QoD (l:List By) (x:By):Qck (l++[x])=Qck l++[.string (ba x)]:=by simp[Qck]
theorem QeB {w w':World} {B:Nat} {l:List By} {v:Value} (h:QbH B l v w) (y:Below w.heap.size w w'):QbH B l v w':=owns_below h y
theorem one1t (x:ByteArray):∀u∈[Value.string x],u.oneCell'=true:=by intro u h;simp at h;subst h;rfl
theorem Qg6 {l r:List By} {x:By} {m:List By} (h:l=m++x::r) (y:x∈m):¬l.Nodup:=by
 rw[h];intro D;exact(List.nodup_append.1 D).2.2 x y x (by simp) rfl
theorem Qdt {l:List By} {x:By} (h:l.Nodup) (y:x∉l):(l++[x]).Nodup:=by
 rw[List.nodup_append];exact⟨h,by simp,fun a ha b hb=>by rw[List.mem_singleton.1 hb];rintro rfl;exact y ha⟩
def QrU (f:Flw) (w:World) (e:Ending) (w':World):Prop:=Below w.heap.size w w'/\
 ((¬(Qaw f).Nodup/\∃ev,e=.returned (.tuple #[.slice none 0 0,ev])/\AtV w' ev 9)\/
  ((Qaw f).Nodup/\∃mv,e=.returned (.tuple #[mv,.nilIface])/\QbH w.heap.size (Qaw f) mv w'))
theorem Qg7 {f:Flw} (y:Fw.FlwOK f):(Qaw f).length<=16016:=by
 unfold Qaw;rw[List.length_append,List.length_map];have H:=y.il;have D:∀l:List FJob,(∀j∈l,j.outs.length<=1000)->(l.flatMap (·.outs)).length<=l.length*1000:=by
  intro l
  induction l with
  |nil=>intro _;simp
  |cons a r ih=>
   intro h;have:=ih (fun j hj=>h j (by simp[hj]));have:=h a (by simp);rw[List.flatMap_cons,List.length_append,List.length_cons];omega
 have I:=D f.jobs (fun j hj=>(y.jobs j hj).ol);have F:=y.jl;have:f.jobs.length*1000<=16000:=by omega
 omega
theorem pre_len {f:Flw} (y:Fw.FlwOK f) {m r:List By} (h:Qaw f=m++r):m.length<=16016:=by
 have:=Qg7 y;rw[h,List.length_append] at this;omega
theorem QoE {w:World} {f:Flw} {D U M:Value} (h:Fw.FlowRd w f D U M) {k:Nat} (y:k<f.ins.length):∃b c,D=.slice (some ⟨b,0,none⟩) f.ins.length c/\f.ins.length<=c/\b<w.heap.size/\∃v,w.cell? ⟨b,k*3,none⟩=some (.int .i64 (f.ins[k].at_:Nat))/\w.cell? ⟨b,k*3+1,none⟩=some (.string (ba f.ins[k].name))/\w.cell? ⟨b,k*3+2,none⟩=some v/\Fw.ColsR w v f.ins[k].cols:=by
 rcases h.ins with ⟨-,e⟩|⟨b,c,e,V,O,Z⟩
 ·rw[e] at y;exact absurd y (by simp)
 ·obtain⟨a,v,H,K,I,N,J⟩:=Z k y;obtain⟨_,F⟩:=List.getElem?_eq_some_iff.1 H;subst F;exact⟨b,c,e,V,O,v,K,I,N,J⟩
theorem Qqy {w:World} {f:Flw} {K O D:Value} (h:Fw.FlowRd w f K O D) {k:Nat} (y:k<f.outs.length):∃b c,D=.slice (some ⟨b,0,none⟩) f.outs.length c/\f.outs.length<=c/\b<w.heap.size/\w.cell? ⟨b,k*3,none⟩=some (.int .i64 (f.outs[k].at_:Nat))/\w.cell? ⟨b,k*3+1,none⟩=some (.string (ba f.outs[k].name))/\w.cell? ⟨b,k*3+2,none⟩=some (.string (ba f.outs[k].from_)):=by
 rcases h.outs with ⟨-,e⟩|⟨b,c,e,U,N,V⟩
 ·rw[e] at y;exact absurd y (by simp)
 ·obtain⟨a,H,J,I,M⟩:=V k y;obtain⟨_,F⟩:=List.getElem?_eq_some_iff.1 H;subst F;exact⟨b,c,e,U,N,J,I,M⟩
theorem Qe9 (wr:World) (y:List Value) (h:y.length=15) (F:y.toArray.all (·.oneCell')=true):∃w2,w2=(wr.alloc (.cells zeroJ 50)).setCells wr.heap.size 0 y/\Below wr.heap.size wr w2/\Fw.Box w2 wr.heap.size y/\w2.heap.size=wr.heap.size+1/\(Tryz.prog.info? 50).map (·.size)=some y.length/\(wr.alloc (.cells zeroJ 50)).there wr.heap.size 0 y.toArray.size:=by
 refine⟨_,rfl,(Qaa _ _).trans (Fw.below_setCells (Nat.le_refl _) _ _ _),⟨_,Fw.job_stored wr y h⟩,by rw[Fw.size_sets];simp,by rw[h];exact Fw.job_info,?_⟩;have D:y.toArray.size=15:=h;rw[D];exact Fw.job_there wr
theorem QcX {w:World} {j:FJob} {D y h:Value} (H:Fw.StrsR w D j.outs) (F:Fw.StrsR w y j.ins) (I:Fw.StrsR w h j.cols):(Fw.jobV j D y h).toArray.all (·.oneCell')=true:=by
 obtain⟨J,c1,rfl⟩:=strs_slice H;obtain⟨K,c2,rfl⟩:=strs_slice F;obtain⟨M,c3,rfl⟩:=strs_slice I;simp[Fw.jobV,Value.oneCell']
end Go.Proofs.YtjlgejennghhlaaGreatDoor.Pl
namespace Go.Proofs.YtjlgejennghhlaaGreatDoor.Pl
open Go.RowKit
open Fw (By FJob Flw ba Qck QbH zeroJ)
structure MkS (f:Flw) (w1 wr:World) (mv:Value) (m:List By):Prop where
 low:Below w1.heap.size w1 wr
 row:QbH w1.heap.size m mv wr
 nd:m.Nodup
 pre:∃r,Qaw f=m++r
theorem MkS.below {f:Flw} {y wr w':World} {mv:Value} {m:List By} (h:MkS f y wr mv m) (D:Below wr.heap.size wr w'):MkS f y w' mv m:=⟨bel_then h.low D,QeB h.row D,h.nd,h.pre⟩
theorem MkS.snoc {f:Flw} {y wr D:World} {mv H:Value} {m:List By} {x:By} (h:MkS f y wr mv m) (N:x∉m) (I:∃r,Qaw f=m++x::r) (J:D.ownsRow y.heap.size 9 1 H (m.length+1) (Qck m++[.string (ba x)])) (M:(wr.alloc (.cells #[.string (ba x)] 9)).grownBy D mv.ownBlock):MkS f y D H (m++[x]):=by
 have F:=h.low.size;refine⟨(h.low.alloc F _).grown M (by simp;omega) (fun q hq=>(h.row.lt q hq).1),?_,Qdt h.nd N,?_⟩
 ·unfold QbH;rw[QoD,List.length_append];exact J
 ·obtain⟨r,K⟩:=I;exact⟨r,by rw[K];simp⟩
theorem MkS.has {f:Flw} {D wr:World} {mv:Value} {m:List By} (h:MkS f D wr mv m) (F:Fw.FlwOK f) (x:By) (V:World) (y:Below wr.heap.size wr V):Calls Tryz.prog 37 #[mv,.string (ba x)] V fun e w'=>e=.returned (.bool (m.contains x))/\w'=V:=by
 obtain⟨r,H⟩:=h.pre;exact Qe8 (Fw.StrsR.of (QeB h.row y)) (by have:=pre_len F H;omega) x
theorem QkV {l:List Fw.FIn} {k:Nat} (h:k<l.length):(l.take (k+1)).map (·.name)=(l.take k).map (·.name)++[l[k].name]:=by
 rw[List.take_succ_eq_append_getElem h,List.map_append];rfl
theorem QpP {f:Flw} {k:Nat} (h:k<f.ins.length):∃r,Qaw f=(f.ins.take k).map (·.name)++f.ins[k].name::r:=by
 refine⟨(f.ins.drop (k+1)).map (·.name)++f.jobs.flatMap (·.outs),?_⟩;unfold Qaw;have e:f.ins=f.ins.take k++f.ins[k]::f.ins.drop (k+1):=by rw[<-List.drop_eq_getElem_cons h,List.take_append_drop]
 conv=>lhs;rw[e]
 simp only[List.map_append,List.map_cons,List.append_assoc,List.cons_append]
theorem QoF {f:Flw} {q r:Nat} (h:q<f.jobs.length) (F:r<f.jobs[q].outs.length):∃s,Qaw f=(f.ins.map (·.name)++(f.jobs.take q).flatMap (·.outs)++f.jobs[q].outs.take r)++f.jobs[q].outs[r]::s:=by
 refine⟨f.jobs[q].outs.drop (r+1)++(f.jobs.drop (q+1)).flatMap (·.outs),?_⟩;unfold Qaw;have e:f.jobs=f.jobs.take q++f.jobs[q]::f.jobs.drop (q+1):=by rw[<-List.drop_eq_getElem_cons h,List.take_append_drop]
 have D:f.jobs[q].outs=f.jobs[q].outs.take r++f.jobs[q].outs[r]::f.jobs[q].outs.drop (r+1):=by rw[<-List.drop_eq_getElem_cons F,List.take_append_drop]
 have y:f.jobs.flatMap (·.outs)=(f.jobs.take q).flatMap (·.outs)++(f.jobs[q].outs++(f.jobs.drop (q+1)).flatMap (·.outs)):=by
  conv=>lhs;rw[e]
  rw[List.flatMap_append,List.flatMap_cons]
 rw[y]
 conv=>lhs;rw[D]
 simp only[List.append_assoc,List.cons_append]
theorem Qm1 {f:Flw} {q:Nat} (h:q<f.jobs.length):(f.jobs.take (q+1)).flatMap (·.outs)=(f.jobs.take q).flatMap (·.outs)++f.jobs[q].outs:=by
 rw[List.take_succ_eq_append_getElem h,List.flatMap_append];simp
theorem QdN {w:World} {v:Value} {l:List (By×Int)} (h:Fw.ColsR w v l):∃a c,v=.slice a l.length c:=by
 rcases h with ⟨rfl,rfl⟩|⟨b,o,c,rfl,-⟩
 ·exact⟨_,_,rfl⟩
 ·exact⟨_,_,rfl⟩
theorem QkW {w:World} {B K n z:Nat} {e F:TypeId} {v:Value} {xs:List Value} {cs:Array Value} (D:e≠F) (h:w.ownsRow B e z v n xs) (y:w.heap[K]? =some (.cells cs F (0,0))):v.ownBlock≠some K:=by
 intro he;obtain⟨-,⟨rfl,-⟩|⟨g,J,I,rfl,-,H,-⟩⟩:=h
 ·cases he
 ·simp only[Value.ownBlock,Option.some.injEq] at he;subst he;rw[H] at y;simp at y;exact D y.2
theorem QiZ (f:Flw) (vi vj vo:Value) (w:World) (h:Fw.FlowRd w f vi vj vo) (hf:Fw.FlwOK f):
 Calls Tryz.prog 52 #[.agg #[vi,vj,vo]] w fun e w'=>QrU f w e w':=by
 obtain⟨i0,hi,a7,bk,bi⟩:=info_parts Fw.Tryz.infoStr;obtain⟨ia,ic,rfl⟩:=row_slice h.ins;obtain⟨ja,jc,rfl⟩:=row_slice h.jobs;obtain⟨I,hI⟩:∃I,f.ins.length=I:=⟨_,rfl⟩;obtain⟨J,hJ⟩:∃J,f.jobs.length=J:=⟨_,rfl⟩;have cg:I<=16:=by rw[<-hI];exact hf.il
 have cf:J<=16:=by rw[<-hJ];exact hf.jl
 rw[hI,hJ] at h⊢;obtain⟨w1,a5⟩:∃x,w.alloc (.cells #[.slice ia I ic,.slice ja J jc,vo] 29)=x:=⟨_,rfl⟩;have aC:Below w.heap.size w w1:=by rw[<-a5];exact Qaa _ _
 have aO:Qcc w1 w.heap.size (.slice ia I ic) (.slice ja J jc) vo:=by rw[<-a5];exact Qcc.new _ _ _ _ _
 have ab:=Hk aC;have bF:=Hk aO;have HH:=Hk (Ai (h.below aC) hf);have HI:=Hk hI;have HJ:=Hk hJ;have g1:=aO.1;have a9:Hid (∀(pl:Int) V,Calls Tryz.prog 51 #[.int .i64 9,.int .i64 pl] V fun e w'=>∃p,e=.returned (.iface 100 (.pointer (some ⟨p,0,none⟩)))/\AtV w' (.iface 100 (.pointer (some ⟨p,0,none⟩))) 9/\Below V.heap.size V w'):=Hk fun pl V=>Qia 9 pl V
 clear h hf hI hJ aC aO;go_enter Tryz.func52,Tryz.ntmps52;go_wp2;go_loopw [4,14] (fun mv i wr=>∃k:Nat,k<=I/\i=.int .i64 k/\MkS f w1 wr mv ((f.ins.take k).map (·.name))) (fun _ i _=>I-(intOf i).toNat)
 case atStart=>exact⟨0,Nat.zero_le _,rfl,Below.refl _ _,World.ownsRow_nil _ _ _ _,by simp,⟨Qaw f,by simp⟩⟩
 case round=>
  obtain⟨k,hk,rfl,H⟩:=hrel;obtain⟨ma,mc,rfl⟩:=own_slice (show wr.ownsRow _ _ _ _ _ _ from H.row);have N:=Hk H;have bO:=H.low.size
  by_cases hlt:k<I
  ·have aE:k<f.ins.length:=by rw[HI.out];exact hlt
   obtain⟨b,c,e0,bp,hb,v,d0,d1,d2,bn⟩:=QoE (HH.out.1.below H.low) aE;simp only[Value.slice.injEq] at e0;obtain⟨rfl,-,rfl⟩:=e0;obtain⟨ca,cc,rfl⟩:=QdN bn;clear bn;have Z:=Hk (H.has HH.out.2 f.ins[k].name);have F:=Hk (QpP aE);have aV:=Hk (QkV aE);obtain⟨m,hm⟩:∃m,(f.ins.take k).map (·.name)=m:=⟨_,rfl⟩;rw[hm] at Z F aV N H⊢;obtain⟨x,hx⟩:∃x,f.ins[k].name=x:=⟨_,rfl⟩;rw[hx] at Z F aV d1;have bM:m.length<=16016:=by obtain⟨r,hr⟩:=H.pre;exact pre_len HH.out.2 hr
   obtain⟨bx,aa⟩:∃bx,ba x=bx:=⟨_,rfl⟩;rw[aa] at Z d1;generalize f.ins[k].at_=pl at*;generalize f.ins[k].cols.length=cn at*;have aA:=Hk aa;clear H hm hx aa
   cases hcx:m.contains x with
   |true=>
    rw[hcx] at Z;have aF:Hid (¬(Qaw f).Nodup):=Hk (by
     obtain⟨r,hr⟩:=F.out;exact Qg6 hr (by simpa using hcx))
    clear hcx;go_wp2_with (first|(go_at_call 37;refine(Z.out _ (Qaa _ _)).mono ?_;rintro e2 w2 ⟨rfl,rfl⟩)|(go_at_call 51;refine(a9.out _ _).mono ?_;rintro e3 w3 ⟨p,rfl,ap,O⟩;have aK:=Hk ap;have az:=Hk O;clear ap O));refine bodyPost_ret (v:=.tuple #[.slice none 0 0,.iface 100 (.pointer (some ⟨p,0,none⟩))]) (by simp[results,Tryz.results52,go_sem]) rfl ?_;exact⟨ab.out.trans ((bel_then N.out.low (bel_then (Qaa _ _) az.out)).mono ab.out.size),Or.inl ⟨aF.out,_,rfl,aK.out⟩⟩
   |false=>
    rw[hcx] at Z;have aT:Hid (x∉m):=Hk (by simpa using hcx);clear hcx;go_wp2_with (first|(go_at_call 37;refine(Z.out _ (Qaa _ _)).mono ?_;rintro e2 w2 ⟨rfl,rfl⟩)|(at_builtin;refine wpList_append_own _ rfl _ _ 44 rfl w1.heap.size 9 i0 (.string ⟨#[]⟩) 1 16 Tryz.underlying44 hi a7 bk bi rfl (by decide) _ _ _ rfl ((QeB N.out.row (Qaa _ _)).alloc _) ⟨wr.heap.size+1,0,none⟩ 1 1 [.string bx] rfl rfl (news1 _ _ _ _ (by simp)) (one1t _) ?c3 ?c4 ?c5 ?_))
    case c3=>unfold maxLen;omega
    case c4=>omega
    case c5=>simp;omega
    intro v' w5 D y _;obtain⟨wc,aQ⟩:∃wc,wr.alloc (.cells #[.int .i64 (pl:Nat),.string bx,.slice ca cn cc] 57)=wc:=⟨_,rfl⟩;rw[aQ,<-aA.out] at y;rw[<-aA.out] at D;have a2:MkS f w1 wc (.slice ma m.length mc) m:=by rw[<-aQ];exact N.out.below (Qaa _ _)
    have HF:=Hk (a2.snoc aT.out F.out D y);clear D y a2 aQ;go_wp2;go_roundw
    case rel=>exact⟨k+1,by omega,by go_num,by rw[aV.out];exact HF.out⟩
    case measure=>simp[intOf];omega
  ·obtain rfl:k=I:=by omega
   have hN:(f.ins.take k).map (·.name)=f.ins.map (·.name):=by rw[List.take_of_length_le (by have:=HI.out;omega)]
   rw[hN] at N H;have hS:=(bF.out.below H.low).2.1;obtain⟨wa,bm⟩:∃x,x=wr:=⟨_,rfl⟩;rw[<-bm] at N hS⊢;rw[show((f.ins.take k).map (·.name)).length=(f.ins.map (·.name)).length by rw[hN]] at*;clear H hN bm bO;go_wp2;go_loopw [4,34] (fun mv i wr=>∃q:Nat,q<=J/\i=.int .i64 q/\MkS f w1 wr mv (f.ins.map (·.name)++(f.jobs.take q).flatMap (·.outs))) (fun _ i _=>J-(intOf i).toNat)
   case atStart=>exact⟨0,Nat.zero_le _,rfl,by simpa using N.out⟩
   case round=>
    obtain⟨q,hq,rfl,ad⟩:=hrel;clear N hS;obtain⟨wb,bb⟩:∃x,x=wr:=⟨_,rfl⟩;rw[<-bb] at ad⊢;clear bb;obtain⟨bQ,b1,rfl⟩:=own_slice (show wb.ownsRow _ _ _ _ _ _ from ad.row);have N:=Hk ad
    by_cases hlt2:q<J
    ·have ay:q<f.jobs.length:=by rw[HJ.out];exact hlt2
     obtain⟨b,c,e0,bp,hb,ao,ai,ac,aR,ho,bo,bf⟩:=QeP HH.out.1 ay;have aD:wb.rangeAt b (q*15) (Fw.jobV f.jobs[q] ao ai ac):=fun j u hj=>(ad.low.cell (p:=⟨b,q*15+j,none⟩) hb).trans (aR j u hj)
     clear aR;simp only[Value.slice.injEq] at e0;obtain⟨rfl,-,rfl⟩:=e0;have ag:=QcX ho bo bf;have aU:∀outs M,f.jobs[q].outs=outs->f.ins.map (·.name)++(f.jobs.take q).flatMap (·.outs)=M->∀r (hr:r<outs.length),∃s,Qaw f=(M++outs.take r)++outs[r]::s:=by
      rintro _ _ rfl rfl r hr;exact QoF ay hr
     have aP:=Hk (Qm1 ay);have a8:=(HH.out.2.jobs _ (List.getElem_mem ay)).ol;have HO:=Hk ho;obtain⟨oa,oc,rfl⟩:=strs_slice ho;obtain⟨U,am⟩:∃U,Fw.jobV f.jobs[q] (.slice oa f.jobs[q].outs.length oc) ai ac=U:=⟨_,rfl⟩;have aH:U[2]? =some (.slice oa f.jobs[q].outs.length oc):=by rw[<-am];rfl
     have a4:U[0]? =some (.int .i64 (f.jobs[q].at_:Nat)):=by rw[<-am];rfl
     have be:U.length=15:=by rw[<-am];rfl
     rw[am] at aD ag;obtain⟨outs,ah⟩:∃outs,f.jobs[q].outs=outs:=⟨_,rfl⟩;generalize f.jobs[q].at_=pl at*;obtain⟨w3,aM,O,a6,cp,aN,bj⟩:=Qe9 wb U be ag;have bg:w3.heap[wb.heap.size]? =some (.cells U.toArray 50 (0,0)):=by rw[aM];exact Fw.job_stored wb U be
     have b3:=Hk aD;have bC:=Hk ag;have bh:=Hk aN;have bY:=Hk bj;have bP:=Hk aM;have bV:=Hk bg;have az:=Hk O;have bd:=a6.cell 2 aH;simp only[ah] at bd a8 aP HO aH;have bD:=Hk a4;obtain⟨M,H⟩:∃M,f.ins.map (·.name)++(f.jobs.take q).flatMap (·.outs)=M:=⟨_,rfl⟩;have b0:Hid (f.ins.map (·.name)++(f.jobs.take (q+1)).flatMap (·.outs)=M++outs):=Hk (by rw[aP.out,<-List.append_assoc,H]);have bw:=Hk (aU outs M ah H);rw[H] at N⊢;have bZ:=Hk (N.out.below O);clear ad aD ag aN bj aM a6 bg O ho bo bf am aH a4 H aP aU ah;go_wp2_with (first|(refine wpList_load_mid rfl 50 (.tmp 36) rfl b (q*15) rfl U _ b3.out Tryz.underlying50 rfl bh.out ?_)|(refine wpList_store_mid rfl 50 (.tmp 8) (.tmp 37) rfl wb.heap.size 0 U.toArray rfl rfl bY.out bh.out bC.out ?_;rw[show U.toArray.toList=U from rfl,<-bP.out]));obtain⟨n,hn⟩:∃n,outs.length=n:=⟨_,rfl⟩;have HN:=Hk hn;rw[hn] at a8 HO bd⊢;clear hn;go_loopw [4,41] (fun mv i wr=>∃r:Nat,r<=n/\i=.int .i64 r/\MkS f w1 wr mv (M++outs.take r)/\wr.heap[wb.heap.size]? =some (.cells U.toArray 50 (0,0))) (fun _ i _=>n-(intOf i).toNat)
     case atStart=>exact⟨0,Nat.zero_le _,rfl,by simpa using bZ.out,bV.out⟩
     case round=>
      obtain⟨r,hr,rfl,K,aw⟩:=hrel;obtain⟨bW,bA,rfl⟩:=own_slice (show wr.ownsRow _ _ _ _ _ _ from K.row);have aq:=Hk K;have aS:=Hk aw;have ch:=K.low.size
      by_cases hlt3:r<n
      ·have al:r<outs.length:=by have:=HN.out;omega
       rcases HO.out with ⟨-,e0⟩|⟨ob,oo,cq,e0,b8,bJ,ax⟩
       ·rw[e0] at al;exact absurd al (by simp)
       simp only[Value.slice.injEq] at e0;obtain⟨rfl,-,rfl⟩:=e0;have d1:=(K.low.cell (p:=⟨ob,oo+r,none⟩) bJ).trans (ax r al);obtain⟨x,hx⟩:∃x,outs[r]=x:=⟨_,rfl⟩;have F:Hid (∃s,Qaw f=(M++outs.take r)++x::s):=Hk (by rw[<-hx];exact bw.out r al);have a3:Hid (M++outs.take (r+1)=(M++outs.take r)++[x]):=Hk (by rw[List.take_succ_eq_append_getElem al,hx,List.append_assoc]);rw[hx] at d1;obtain⟨m,hm⟩:∃m,M++outs.take r=m:=⟨_,rfl⟩;rw[hm] at F a3 aq K⊢;have Z:=Hk (K.has HH.out.2 x wr (Below.refl _ _));have bM:m.length<=16016:=by obtain⟨s,hs⟩:=K.pre;exact pre_len HH.out.2 hs
       obtain⟨bx,aa⟩:∃bx,ba x=bx:=⟨_,rfl⟩;rw[aa] at Z d1;have aA:=Hk aa;have dA:=Fw.blk_cell (i:=0) aw (by simpa using bD.out);clear K hm hx aa ax aw
       cases hcx:m.contains x with
       |true=>
        rw[hcx] at Z;have aF:Hid (¬(Qaw f).Nodup):=Hk (by
         obtain⟨s,hs⟩:=F.out;exact Qg6 hs (by simpa using hcx))
        clear hcx;go_wp2_with (first|(go_at_call 37;refine Z.out.mono ?_;rintro e2 w2 ⟨rfl,h2⟩;obtain rfl:wr=w2:=h2.symm;clear h2)|(go_at_call 51;refine(a9.out _ _).mono ?_;rintro e3 w3 ⟨p,rfl,ap,O⟩;have aK:=Hk ap;have az:=Hk O;clear ap O));refine bodyPost_ret (v:=.tuple #[.slice none 0 0,.iface 100 (.pointer (some ⟨p,0,none⟩))]) (by simp[results,Tryz.results52,go_sem]) rfl ?_;exact⟨ab.out.trans ((bel_then aq.out.low az.out).mono ab.out.size),Or.inl ⟨aF.out,_,rfl,aK.out⟩⟩
       |false=>
        rw[hcx] at Z;have aT:Hid (x∉m):=Hk (by simpa using hcx);clear hcx;go_wp2_with (first|(go_at_call 37;refine Z.out.mono ?_;rintro e2 w2 ⟨rfl,h2⟩;obtain rfl:wr=w2:=h2.symm;clear h2)|(at_builtin;refine wpList_append_own _ rfl _ _ 44 rfl w1.heap.size 9 i0 (.string ⟨#[]⟩) 1 16 Tryz.underlying44 hi a7 bk bi rfl (by decide) _ _ _ rfl (aq.out.row.alloc _) ⟨wr.heap.size,0,none⟩ 1 1 [.string bx] rfl rfl (news1 _ _ _ _ rfl) (one1t _) ?c3 ?c4 ?c5 ?_))
        case c3=>unfold maxLen;omega
        case c4=>omega
        case c5=>simp;omega
        intro v' w5 D y _;rw[<-aA.out] at y D;have HF:=Hk (aq.out.snoc aT.out F.out D y);have bR:wb.heap.size<wr.heap.size:=(Array.getElem?_eq_some_iff.1 aS.out).1;have bU:Hid (w5.heap[wb.heap.size]? =some (.cells U.toArray 50 (0,0))):=Hk (by
         rw[y.block wb.heap.size (by simp;omega) (by
          intro e;exact QkW (by decide) aq.out.row aS.out e.symm)]
         rw[Below.heap_alloc _ _ _ bR];exact aS.out)
        clear D y dA;go_wp2;go_roundw
        case rel=>exact⟨r+1,by omega,by go_num,by rw[a3.out];exact HF.out,bU.out⟩
        case measure=>simp[intOf];omega
      ·obtain rfl:r=n:=by omega
       have HF:Hid (MkS f w1 wr (.slice bW (M++outs.take r).length bA) (f.ins.map (·.name)++(f.jobs.take (q+1)).flatMap (·.outs))):=Hk (by
        rw[b0.out];have:=K;rw[show outs.take r=outs from List.take_of_length_le (by have:=HN.out;omega)] at this⊢;exact this)
       clear K aw;go_wp2;go_roundw
       case rel=>exact⟨q+1,by omega,by go_num,HF.out⟩
       case measure=>simp[intOf];omega
    ·obtain rfl:q=J:=by omega
     have b2:Hid (f.ins.map (·.name)++(f.jobs.take q).flatMap (·.outs)=Qaw f):=Hk (by
      rw[List.take_of_length_le (by have:=HJ.out;omega)];rfl)
     rw[b2.out] at N ad⊢;clear ad;go_wp2;refine bodyPost_ret (v:=.tuple #[.slice bQ (Qaw f).length b1,.nilIface]) (by simp[results,Tryz.results52,go_sem]) rfl ?_;exact⟨ab.out.trans (N.out.low.mono ab.out.size),Or.inr ⟨N.out.nd,_,rfl,own_mono ab.out.size N.out.row⟩⟩
end Go.Proofs.YtjlgejennghhlaaGreatDoor.Pl
namespace Go.Proofs.YtjlgejennghhlaaGreatDoor.Pl
open Go.RowKit
open Fw (By FJob Flw ba Qck QbH zeroJ)
theorem Qi0 (at_ J:Int) (x y D I:ByteArray) (C:Nat) (r:Bool) (w:World) (h:w.cell? ⟨C,1,none⟩=some (.string y)) (K:(x.toList==y.toList)=r):Calls Tryz.prog 90 #[.agg #[.int .i64 at_,.string x,.string D],.pointer (some ⟨C,0,none⟩)] w fun e w'=>e=.returned (.bool r)/\Below w.heap.size w w':=by
 have F:=World.block_lt_of_cell? w _ h;have H:(w.alloc (.cells #[.int .i64 at_,.string x,.string D] 60)).cell? ⟨C,1,none⟩=some (.string y):=by rw[World.cell?_alloc_lt _ _ ⟨C,1,none⟩ F];exact h
 clear h;go_enter Tryz.func90,Tryz.ntmps90;go_wp2;go_ret;exact⟨rfl,Qaa _ _⟩
theorem QoG (b c n:Nat) (l:List Fw.FOut) (nm:By) (C:Nat) (w:World) (N:b<w.heap.size) (h:∀j,j<l.length->Fw.OutAt l j w b (j*3)) (hn:n<=l.length) (am:n<=100) (V:w.cell? ⟨C,1,none⟩=some (.string (ba nm))):
 Calls Tryz.prog 123 #[.slice (some ⟨b,0,none⟩) n c,.func (.func 90) #[] #[.pointer (some ⟨C,0,none⟩)]] w fun e w'=>∃r:Int,e=.returned (.int .i64 r)/\foundI r ((l.take n).any fun i=>i.name==nm)/\Below w.heap.size w w':=by
 have HR:=Hk h;have HC:=Hk V;have HN:=Hk hn;clear h V hn;go_enter Tryz.func123,Tryz.ntmps123;go_wp2;go_loopw [8] (fun i wr=>∃k:Nat,k<=n/\i=.int .i64 k/\((l.take n).take k).any (fun i=>i.name==nm)=false/\Below w.heap.size w wr) (fun i _=>n-(intOf i).toNat)
 case atStart=>exact⟨0,Nat.zero_le _,rfl,rfl,Below.refl _ _⟩
 case round=>
  obtain⟨k,hk,rfl,M,D⟩:=hrel;have HA:=Hk M;clear M
  by_cases hlt:k<n
  ·have Z:k<l.length:=by have:=HN.out;omega
   have K:k<(l.take n).length:=by rw[List.length_take];omega
   obtain⟨a,ha,d0,d1,U⟩:=HR.out k Z;have e0:=cK D N d0;have e1:=cK D N d1;have e2:=cK D N U;obtain⟨_,J⟩:=List.getElem?_eq_some_iff.1 ha;have hl:=World.block_lt_of_cell? w _ HC.out;have O:=Hk (Qi0 (a.at_:Nat) 0 (ba a.name) (ba nm) (ba a.from_) (ba a.from_) C (a.name==nm) wr (cK D hl HC.out) (QpN _ _));have HX:Hid (∀p,(a.name==nm)=p->(fun i:Fw.FOut=>i.name==nm) (l.take n)[k]=p):=Hk (fun p hp=>by rw[List.getElem_take,J];exact hp);generalize ba a.name=x at*;generalize ba a.from_=y at*;have H:=Hk D;clear D d0 d1 U ha J
   cases hp:(a.name==nm)
   all_goals have HP:=Hk (HX.out _ hp)
   all_goals rw[hp] at O
   all_goals clear hp HX
   ·go_wp2_with (go_at_call 90;refine O.out.mono ?_;rintro e w2 ⟨rfl,F⟩;have I:=Hk (H.out.trans (F.mono H.out.size));clear F);go_roundw
    case rel=>exact⟨k+1,by omega,by go_num,any_step K HA.out HP.out,I.out⟩
    case measure=>simp[intOf];omega
   ·go_wp2_with (go_at_call 90;refine O.out.mono ?_;rintro e w2 ⟨rfl,F⟩;have I:=Hk (H.out.trans (F.mono H.out.size));clear F);go_ret;exact⟨k,rfl,⟨by omega,by omega,by rw[any_hit K HP.out];simp⟩,I.out⟩
  ·go_wp2;go_ret;exact⟨-1,rfl,⟨by omega,by omega,by have:=HA.out;rw[List.take_of_length_le (l:=l.take n) (by rw[List.length_take];omega)] at this;rw[this];rfl⟩,D⟩
theorem QoH (b c n:Nat) (l:List Fw.FOut) (nm:By) (C:Nat) (w:World) (I:b<w.heap.size) (h:∀j,j<l.length->Fw.OutAt l j w b (j*3)) (K:n<=l.length) (F:n<=100) (y:w.cell? ⟨C,1,none⟩=some (.string (ba nm))):
 Calls Tryz.prog 89 #[.slice (some ⟨b,0,none⟩) n c,.func (.func 90) #[] #[.pointer (some ⟨C,0,none⟩)]] w fun e w'=>e=.returned (.bool ((l.take n).any fun i=>i.name==nm))/\Below w.heap.size w w':=by
 have J:=Hk (QoG b c n l nm C w I h K F y);clear h y;go_enter Tryz.func89,Tryz.ntmps89;go_wp2_with (go_at_call 123;refine J.out.mono ?_;rintro e M ⟨r,rfl,H,D⟩);go_ret;exact⟨ret_bool H.2.2,D⟩
def Qg8 (f:Flw):Prop:=(∀j∈f.jobs,∀n∈j.ins,n∈Qaw f)/\(∀o∈f.outs,o.from_∈Qaw f)/\(f.outs.map (·.name)).Nodup
def QrJ (ok:Prop) (w:World) (e:Ending) (w':World):Prop:=Below w.heap.size w w'/\((ok/\e=.returned .nilIface)\/(¬ok/\∃ev n,e=.returned ev/\n≠0/\AtV w' ev n/\ev≠.nilIface))
theorem QoI {f:Flw} {q:Nat} (h:q<f.jobs.length) {P:FJob->Prop} (F:∀j∈f.jobs.take q,P j) (D:P f.jobs[q]):∀j∈f.jobs.take (q+1),P j:=by
 rw[List.take_succ_eq_append_getElem h];intro j y;rcases List.mem_append.1 y with y|y
 ·exact F j y
 ·rw[List.mem_singleton.1 y];exact D
theorem Qg9 {α:Type} {l:List α} {q:Nat} (h:q<l.length) {P:α->Prop} (F:∀j∈l.take q,P j) (D:P l[q]):∀j∈l.take (q+1),P j:=by
 rw[List.take_succ_eq_append_getElem h];intro j y;rcases List.mem_append.1 y with y|y
 ·exact F j y
 ·rw[List.mem_singleton.1 y];exact D
theorem QkX (f:Flw) (vi vj vo mv:Value) (w:World) (h:Fw.FlowRd w f vi vj vo) (hf:Fw.FlwOK f) (hm:Fw.StrsR w mv (Qaw f)):
 Calls Tryz.prog 53 #[.agg #[vi,vj,vo],mv] w fun e w'=>QrJ (Qg8 f) w e w':=by
 obtain⟨ja,jc,rfl⟩:=row_slice h.jobs;obtain⟨oa,oc,rfl⟩:=row_slice h.outs;obtain⟨J,hJ⟩:∃J,f.jobs.length=J:=⟨_,rfl⟩;obtain⟨O,hO⟩:∃O,f.outs.length=O:=⟨_,rfl⟩;have b8:J<=16:=by rw[<-hJ];exact hf.jl
 have cb:O<=16:=by rw[<-hO];exact hf.ol
 rw[hJ,hO] at h⊢;obtain⟨w1,a1⟩:∃x,w.alloc (.cells #[vi,.slice ja J jc,.slice oa O oc] 29)=x:=⟨_,rfl⟩;have ay:Below w.heap.size w w1:=by rw[<-a1];exact Qaa _ _
 have aO:Qcc w1 w.heap.size vi (.slice ja J jc) (.slice oa O oc):=by rw[<-a1];exact Qcc.new _ _ _ _ _
 have Z:=Hk ay;have a3:=Hk aO;have HH:=Hk (Ai (h.below ay) hf);have HJ:=Hk hJ;have HO:=Hk hO;have g1:=aO.2.1;have HC:Hid (∀V,Below w1.heap.size w1 V->∀x,Calls Tryz.prog 37 #[mv,.string (ba x)] V fun e w'=>e=.returned (.bool ((Qaw f).contains x))/\w'=V):=Hk fun V hV x=>Qe8 ((hm.below ay).below hV) (by have:=Qg7 hf;omega) x
 obtain⟨ma,mc,rfl⟩:=strs_slice hm;have aJ:Hid (∀(n:Int) (pl:Int) V,Calls Tryz.prog 51 #[.int .i64 n,.int .i64 pl] V fun e w'=>∃p,e=.returned (.iface 100 (.pointer (some ⟨p,0,none⟩)))/\AtV w' (.iface 100 (.pointer (some ⟨p,0,none⟩))) n/\Below V.heap.size V w'):=Hk fun n pl V=>Qia n pl V
 have cj:=mkF;clear h hf hJ hO ay aO hm;go_enter Tryz.func53,Tryz.ntmps53;go_wp2;go_loopw [14] (fun i wr=>∃q:Nat,q<=J/\i=.int .i64 q/\(∀j∈f.jobs.take q,∀n∈j.ins,n∈Qaw f)/\Below w1.heap.size w1 wr) (fun i _=>J-(intOf i).toNat)
 case atStart=>exact⟨0,Nat.zero_le _,rfl,by simp,Below.refl _ _⟩
 case round=>
  obtain⟨q,hq,rfl,ar,F⟩:=hrel;obtain⟨wb,a4⟩:∃x,x=wr:=⟨_,rfl⟩;rw[<-a4] at F⊢;clear a4;have HA:=Hk ar;have bb:=Hk F;clear ar
  by_cases hlt:q<J
  ·have aA:q<f.jobs.length:=by rw[HJ.out];exact hlt
   obtain⟨b,c,e0,bk,hb,ao,ai,ac,aQ,ho,aC,a8⟩:=QeP HH.out.1 aA;have aG:wb.rangeAt b (q*15) (Fw.jobV f.jobs[q] ao ai ac):=fun j u hj=>(F.cell (p:=⟨b,q*15+j,none⟩) hb).trans (aQ j u hj)
   clear aQ;simp only[Value.slice.injEq] at e0;obtain⟨rfl,-,rfl⟩:=e0;have ak:=QcX ho aC a8;have bj:=(HH.out.2.jobs _ (List.getElem_mem aA)).il;have HI:=Hk aC;obtain⟨na,nc,rfl⟩:=strs_slice aC;obtain⟨JL,aq⟩:∃JL,Fw.jobV f.jobs[q] ao (.slice na f.jobs[q].ins.length nc) ac=JL:=⟨_,rfl⟩;have aS:JL[3]? =some (.slice na f.jobs[q].ins.length nc):=by rw[<-aq];rfl
   have a0:JL[0]? =some (.int .i64 (f.jobs[q].at_:Nat)):=by rw[<-aq];rfl
   have bK:JL.length=15:=by rw[<-aq];rfl
   rw[aq] at aG ak;have bg:Hid (∀ins,f.jobs[q].ins=ins->(∀n∈ins,n∈Qaw f)->∀j∈f.jobs.take (q+1),∀n∈j.ins,n∈Qaw f):=Hk (fun ins H hall=>QoI aA HA.out (by rw[H];exact hall));have aY:Hid (∀ins x,f.jobs[q].ins=ins->x∈ins->x∉Qaw f->¬Qg8 f):=Hk (fun ins x H hx hno hR=>hno (hR.1 _ (List.getElem_mem aA) x (by rw[H];exact hx)));obtain⟨ins,H⟩:∃ins,f.jobs[q].ins=ins:=⟨_,rfl⟩;generalize f.jobs[q].at_=pl at*;obtain⟨w3,bd,I,aH,cf,aM,bh⟩:=Qe9 wb JL bK ak;have b0:=Hk aG;have bA:=Hk ak;have bf:=Hk aM;have bX:=Hk bh;have bP:=Hk bd;have bO:=Hk aH;have ab:=Hk I;have a6:=aH.cell 3 aS;simp only[H] at a6 bj HI aS;have bB:=Hk a0;have bp:=Hk (bg.out ins H);have bm:=Hk (fun x=>aY.out ins x H);clear aG ak aM bh bd aH I ho aC a8 aq aS a0 H bg aY F;go_wp2_with (first|(refine wpList_load_mid rfl 50 (.tmp 16) rfl b (q*15) rfl JL _ b0.out Tryz.underlying50 rfl bf.out ?_)|(refine wpList_store_mid rfl 50 (.tmp 6) (.tmp 17) rfl wb.heap.size 0 JL.toArray rfl rfl bX.out bf.out bA.out ?_;rw[show JL.toArray.toList=JL from rfl,<-bP.out]));obtain⟨n,hn⟩:∃n,ins.length=n:=⟨_,rfl⟩;have HN:=Hk hn;rw[hn] at bj HI a6⊢;clear hn;go_loopw [21] (fun i wr=>∃r:Nat,r<=n/\i=.int .i64 r/\(∀x∈ins.take r,x∈Qaw f)/\Below w3.heap.size w3 wr) (fun i _=>n-(intOf i).toNat)
   case atStart=>exact⟨0,Nat.zero_le _,rfl,by simp,Below.refl _ _⟩
   case round=>
    obtain⟨r,hr,rfl,aN,N⟩:=hrel;have a7:=Hk aN;have ag:=Hk (bel_then (bel_then bb.out ab.out) N);have bS:=Hk (bO.out.below N);clear aN
    by_cases hlt3:r<n
    ·have D:r<ins.length:=by have:=HN.out;omega
     rcases HI.out with ⟨-,e0⟩|⟨nb,no,ch,e0,b4,bM,az⟩
     ·rw[e0] at D;exact absurd D (by simp)
     simp only[Value.slice.injEq] at e0;obtain⟨rfl,-,rfl⟩:=e0;have d1:=(ag.out.cell (p:=⟨nb,no+r,none⟩) bM).trans (az r D);obtain⟨x,hx⟩:∃x,ins[r]=x:=⟨_,rfl⟩;have bT:Hid (x∈ins):=Hk (by rw[<-hx];exact List.getElem_mem D);have bw:Hid (x∈Qaw f->∀y∈ins.take (r+1),y∈Qaw f):=Hk (fun hxm=>Qg9 D a7.out (by rw[hx];exact hxm));rw[hx] at d1;have K:=Hk (HC.out wr ag.out x);obtain⟨bx,a5⟩:∃bx,ba x=bx:=⟨_,rfl⟩;rw[a5] at K d1;have dA:=bS.out.cell 0 bB.out;clear hx a5 az
     cases hcx:(Qaw f).contains x with
     |true=>
      rw[hcx] at K;have bZ:Hid (∀y∈ins.take (r+1),y∈Qaw f):=Hk (bw.out (by simpa using hcx));have bs:=Hk N;clear hcx N;go_wp2_with (first|(go_at_call 37;refine K.out.mono ?_;rintro e2 w2 ⟨rfl,M⟩;obtain rfl:wr=w2:=M.symm;clear M));go_roundw
      case rel=>exact⟨r+1,by omega,by go_num,bZ.out,bs.out⟩
      case measure=>simp[intOf];omega
     |false=>
      rw[hcx] at K;have au:Hid (¬Qg8 f):=Hk (bm.out x bT.out (by simpa using hcx));clear hcx N;go_wp2_with (first|(go_at_call 37;refine K.out.mono ?_;rintro e2 w2 ⟨rfl,M⟩;obtain rfl:wr=w2:=M.symm;clear M)|(go_at_call 51;refine(aJ.out _ _ _).mono ?_;rintro e3 w3 ⟨p,rfl,U,I⟩;have av:=Hk U;have ab:=Hk I;clear U I));go_ret;exact⟨Z.out.trans ((bel_then ag.out ab.out).mono Z.out.size),Or.inr ⟨au.out,_,7,rfl,by decide,av.out,by simp⟩⟩
    ·obtain rfl:r=n:=by omega
     have HF:=Hk (bp.out (by have:=a7.out;rwa[List.take_of_length_le (by have:=HN.out;omega)] at this));clear N;go_wp2;go_roundw
     case rel=>exact⟨q+1,by omega,by go_num,HF.out,ag.out⟩
     case measure=>simp[intOf];omega
  ·obtain rfl:q=J:=by omega
   have bJ:Hid (∀j∈f.jobs,∀n∈j.ins,n∈Qaw f):=Hk (by have:=HA.out;rwa[List.take_of_length_le (by have:=HJ.out;omega)] at this);have g2:=(a3.out.below F).2.2;clear F HA;go_wp2;go_loopw [37] (fun i wr=>∃q:Nat,q<=O/\i=.int .i64 q/\(∀o∈f.outs.take q,o.from_∈Qaw f)/\((f.outs.take q).map (·.name)).Nodup/\Below w1.heap.size w1 wr) (fun i _=>O-(intOf i).toNat)
   case atStart=>exact⟨0,Nat.zero_le _,rfl,by simp,by simp,bb.out⟩
   case round=>
    obtain⟨r,hr,rfl,ar,bi,F⟩:=hrel;have HA:=Hk (Ai ar bi);have ag:=Hk F;clear ar bi
    by_cases hlt3:r<O
    ·have D:r<f.outs.length:=by rw[HO.out];exact hlt3
     rcases HH.out.1.outs with ⟨-,e0⟩|⟨b,c,e0,bk,hb,hx⟩
     ·rw[e0] at D;exact absurd D (by simp)
     simp only[Value.slice.injEq] at e0;obtain⟨rfl,-,rfl⟩:=e0;obtain⟨a,ha,aZ,a9,be⟩:=hx r D;obtain⟨_,aw⟩:=List.getElem?_eq_some_iff.1 ha;have d0:=cK F hb aZ;have d1:=cK F hb a9;have d2:=cK F hb be;obtain⟨w4,ap⟩:∃x,wr.alloc (.cells #[.int .i64 (a.at_:Nat),.string (ba a.name),.string (ba a.from_)] 60)=x:=⟨_,rfl⟩;have aj:Below w1.heap.size w1 w4:=by rw[<-ap];exact bel_then F (Qaa _ _)
     have aP:=Hk aj;have K:=Hk (HC.out w4 aj a.from_);have bU:w4.cell? ⟨wr.heap.size,1,none⟩=some (.string (ba a.name)):=by rw[<-ap];exact World.cell?_alloc_at _ _ _ _ rfl
     have ca:w4.cell? ⟨wr.heap.size,0,none⟩=some (.int .i64 (a.at_:Nat)):=by rw[<-ap];exact World.cell?_alloc_at _ _ _ _ rfl
     have ce:w4.cell? ⟨wr.heap.size,2,none⟩=some (.string (ba a.from_)):=by rw[<-ap];exact World.cell?_alloc_at _ _ _ _ rfl
     have ci:=aj.size;have aB:=Hk (QoH b oc r f.outs a.name wr.heap.size w4 (by omega) (fun j hj=>(hx j hj).below aj hb) (by omega) (by omega) bU);have g3:=(a3.out.below aj).2.2;have bG:Hid (a.from_∈Qaw f->((f.outs.take r).any fun i=>i.name==a.name)=false->(∀o∈f.outs.take (r+1),o.from_∈Qaw f)/\((f.outs.take (r+1)).map (·.name)).Nodup):=Hk (fun h1 M=>by
      refine⟨Qg9 D HA.out.1 (by rw[aw];exact h1),?_⟩;rw[List.take_succ_eq_append_getElem D,List.map_append,aw];refine Qdt HA.out.2 (fun hm=>?_);obtain⟨o,ho,e⟩:=List.mem_map.1 hm;have:=List.any_eq_false.1 M o ho;rw[e] at this;simp at this)
     have bH:Hid (a.from_∉Qaw f->¬Qg8 f):=Hk (fun h1 hR=>h1 (by rw[<-aw];exact hR.2.1 _ (List.getElem_mem D)));have bI:Hid (((f.outs.take r).any fun i=>i.name==a.name)=true->¬Qg8 f):=Hk (fun h1 hR=>by
      obtain⟨o,ho,e⟩:=List.any_eq_true.1 h1;have e2:f.outs.map (·.name)=(f.outs.take r).map (·.name)++a.name::(f.outs.drop (r+1)).map (·.name):=by
       conv=>lhs;rw[show f.outs=f.outs.take r++f.outs[r]::f.outs.drop (r+1) by rw[<-List.drop_eq_getElem_cons D,List.take_append_drop]]
       rw[List.map_append,List.map_cons,aw]
      exact Qg6 e2 (List.mem_map.2 ⟨o,ho,by simpa using e⟩) hR.2.2)
     have cg:(r:Int)<=(oc:Int):=by have:=HO.out;omega
     have cc:(0:Int)<=(r:Int):=by omega
     generalize ba a.name=nm at*;generalize ba a.from_=fr at*;clear F hx aZ a9 be ha aw aj
     cases hcx:(Qaw f).contains a.from_ with
     |false=>
      rw[hcx] at K;have au:Hid (¬Qg8 f):=Hk (bH.out (by simpa using hcx));clear hcx;go_wp2_with (first|(go_at_call 37;refine K.out.mono ?_;rintro e2 w2 ⟨rfl,M⟩;obtain rfl:w4=w2:=M.symm;clear M)|(go_at_call 51;refine(aJ.out _ _ _).mono ?_;rintro e3 w3 ⟨p,rfl,U,I⟩;have av:=Hk U;have ab:=Hk I;clear U I));go_ret;exact⟨Z.out.trans ((bel_then aP.out ab.out).mono Z.out.size),Or.inr ⟨au.out,_,7,rfl,by decide,av.out,by simp⟩⟩
     |true=>
      rw[hcx] at K;have bv:Hid (a.from_∈Qaw f):=Hk (by simpa using hcx);clear hcx
      cases hny:(f.outs.take r).any fun i=>i.name==a.name with
      |true=>
       rw[hny] at aB;have au:Hid (¬Qg8 f):=Hk (bI.out hny);clear hny;go_wp2_with (first|(go_at_call 37;refine K.out.mono ?_;rintro e2 w2 ⟨rfl,M⟩;obtain rfl:w4=w2:=M.symm;clear M)|(go_at_call 89;refine aB.out.mono ?_;rintro e5 w5 ⟨rfl,ah⟩;have aR:=Hk (bel_then aP.out ah);have q0:w5.cell? ⟨wr.heap.size,0,none⟩=some (.int .i64 (a.at_:Nat)):=cell_below (by rw[<-ap];exact World.cell?_alloc_at _ _ _ _ rfl) ah;clear ah)|(go_at_call 51;refine(aJ.out _ _ _).mono ?_;rintro e3 w3 ⟨p,rfl,U,I⟩;have av:=Hk U;have ab:=Hk I;clear U I));go_ret;exact⟨Z.out.trans ((bel_then aR.out ab.out).mono Z.out.size),Or.inr ⟨au.out,_,9,rfl,by decide,av.out,by simp⟩⟩
      |false=>
       rw[hny] at aB;have a2:=Hk (bG.out bv.out hny);clear hny;go_wp2_with (first|(go_at_call 37;refine K.out.mono ?_;rintro e2 w2 ⟨rfl,M⟩;obtain rfl:w4=w2:=M.symm;clear M)|(go_at_call 89;refine aB.out.mono ?_;rintro e5 w5 ⟨rfl,ah⟩;have aR:=Hk (bel_then aP.out ah);clear ah));go_roundw
       case rel=>exact⟨r+1,by omega,by go_num,a2.out.1,a2.out.2,aR.out⟩
       case measure=>simp[intOf];omega
    ·obtain rfl:r=O:=by omega
     have bN:Hid (Qg8 f):=Hk (by
      have:=HA.out;rw[List.take_of_length_le (by have:=HO.out;omega)] at this;exact⟨bJ.out,this.1,this.2⟩)
     go_wp2;go_ret;exact⟨Z.out.trans (ag.out.mono Z.out.size),Or.inl ⟨bN.out,rfl⟩⟩
end Go.Proofs.YtjlgejennghhlaaGreatDoor.Pl
namespace Go.Proofs.YtjlgejennghhlaaGreatDoor.Pl
open Go.RowKit
open Fw (By FJob Flw ba Qck QbH zeroJ)
theorem Qid {w:World} {v:Value} {l:List (By×Int)} (h:Fw.ColsR w v l) (M:∀x∈l,x.1.length<=1000):Qax w v (QaY l):=by
 have D:∀x∈QaY l,x.1.size<=maxLen:=by
  intro x N;obtain⟨y,I,rfl⟩:=List.mem_map.1 N;exact Nat.le_trans (M y I) (by decide)
 rcases h with ⟨rfl,rfl⟩|⟨b,o,c,rfl,H,K,J⟩
 ·exact⟨none,0,rfl,Nat.le_refl _,D,Or.inl rfl⟩
 ·refine⟨some ⟨b,o,none⟩,c,by simp[QaY],by simpa [QaY] using H,D,Or.inr ⟨b,o,rfl,K,fun j hj=>?_⟩⟩;have F:j<l.length:=by simpa [QaY] using hj
  have:=J j F;simpa [QaY] using this
theorem QjV (f:Flw):Fine f↔(∀i∈f.ins,Qai (QaY i.cols)=true)/\(Qaw f).Nodup/\Qg8 f:=
 ⟨fun h=>⟨h.cols,h.nodup,h.reads,h.outs,h.told⟩,fun⟨a,b,c,d,e⟩=>⟨a,b,c,d,e⟩⟩
theorem wrong_any (f:Flw) (vi vj vo:Value) (w:World) (h:Fw.FlowRd w f vi vj vo) (hf:Fw.FlwOK f):
 Calls Tryz.prog 19 #[.agg #[vi,vj,vo]] w fun e w'=>QrJ (Fine f) w e w':=by
 obtain⟨ia,ic,rfl⟩:=row_slice h.ins;obtain⟨ja,jc,rfl⟩:=row_slice h.jobs;obtain⟨oa,oc,rfl⟩:=row_slice h.outs;obtain⟨I,hI⟩:∃I,f.ins.length=I:=⟨_,rfl⟩;have a5:I<=16:=by rw[<-hI];exact hf.il
 generalize f.jobs.length=J at*;generalize f.outs.length=O at*;rw[hI] at h⊢;obtain⟨w1,ax⟩:∃x,w.alloc (.cells #[.slice ia I ic,.slice ja J jc,.slice oa O oc] 29)=x:=⟨_,rfl⟩;have ai:Below w.heap.size w w1:=by rw[<-ax];exact Qaa _ _
 have al:Qcc w1 w.heap.size (.slice ia I ic) (.slice ja J jc) (.slice oa O oc):=by rw[<-ax];exact Qcc.new _ _ _ _ _
 have y:=Hk ai;have az:=Hk al;have HH:=Hk (Ai (h.below ai) hf);have HI:=Hk hI;have g1:=al.1;have aP:Hid (∀(n:Int) (pl:Int) V,Calls Tryz.prog 51 #[.int .i64 n,.int .i64 pl] V fun e w'=>∃p,e=.returned (.iface 100 (.pointer (some ⟨p,0,none⟩)))/\AtV w' (.iface 100 (.pointer (some ⟨p,0,none⟩))) n/\Below V.heap.size V w'):=Hk fun n pl V=>Qia n pl V
 clear h hf hI ai al;go_enter Tryz.func19,Tryz.ntmps19;go_wp2;go_loopw [10] (fun i wr=>∃k:Nat,k<=I/\i=.int .i64 k/\(∀i∈f.ins.take k,Qai (QaY i.cols)=true)/\Below w1.heap.size w1 wr) (fun i _=>I-(intOf i).toNat)
 case atStart=>exact⟨0,Nat.zero_le _,rfl,by simp,Below.refl _ _⟩
 case round=>
  obtain⟨k,hk,rfl,aA,D⟩:=hrel;have HA:=Hk aA;have HN:=Hk D;clear aA
  by_cases hlt:k<I
  ·have ac:k<f.ins.length:=by rw[HI.out];exact hlt
   obtain⟨b,c,e0,a3,hb,v,d0,d1,d2,aq⟩:=QoE (HH.out.1.below D) ac;simp only[Value.slice.injEq] at e0;obtain⟨rfl,-,rfl⟩:=e0;have ap:=HH.out.2.ins _ (List.getElem_mem ac);have ad:Hid (∀V,Below wr.heap.size wr V->Calls Tryz.prog 30 #[v] V fun e w'=>e=.returned (.bool (Qai (QaY f.ins[k].cols)))/\Below V.heap.size V w'):=Hk fun V hV=>Qb5 v _ V (Qid (aq.below hV) (fun x hx=>Nat.le_trans (ap.2.2 x hx).1 (by decide)))
   have ab:Hid (Qai (QaY f.ins[k].cols)=true->∀i∈f.ins.take (k+1),Qai (QaY i.cols)=true):=Hk (fun hy=>Qg9 ac HA.out hy);have Z:Hid (Qai (QaY f.ins[k].cols)=false->¬Fine f):=Hk (fun hy hF=>by have:=hF.cols _ (List.getElem_mem ac);rw[hy] at this;cases this);obtain⟨ca,cc,rfl⟩:=QdN aq;clear aq;generalize f.ins[k].at_=pl at*;generalize ba f.ins[k].name=nm at*;clear D
   cases hr:Qai (QaY f.ins[k].cols) with
   |true=>
    rw[hr] at ad;have HY:=Hk (ab.out hr);clear hr ab Z ap;generalize f.ins[k].cols.length=cn at*;go_wp2_with (first|(go_at_call 30;refine(ad.out _ (Qaa _ _)).mono ?_;rintro e2 w2 ⟨rfl,F⟩;have ak:=Hk (bel_then HN.out (bel_then (Qaa _ _) F));clear F));go_roundw
    case rel=>exact⟨k+1,by omega,by go_num,HY.out,ak.out⟩
    case measure=>simp[intOf];omega
   |false=>
    rw[hr] at ad;have N:=Hk (Z.out hr);clear hr ab Z ap;generalize f.ins[k].cols.length=cn at*;go_wp2_with (first|(go_at_call 30;refine(ad.out _ (Qaa _ _)).mono ?_;rintro e2 w2 ⟨rfl,F⟩;have q0:w2.cell? ⟨wr.heap.size,0,none⟩=some (.int .i64 (pl:Nat)):=cell_below (World.cell?_alloc_at _ _ _ _ rfl) F;have ak:=Hk (bel_then HN.out (bel_then (Qaa _ _) F));clear F)|(go_at_call 51;refine(aP.out _ _ _).mono ?_;rintro e3 w3 ⟨p,rfl,aB,aD⟩;have aU:=Hk aB;have aW:=Hk aD;clear aB aD));go_ret;exact⟨y.out.trans ((bel_then ak.out aW.out).mono y.out.size),Or.inr ⟨N.out,_,3,rfl,by decide,aU.out,by simp⟩⟩
  ·obtain rfl:k=I:=by omega
   have aZ:Hid (∀i∈f.ins,Qai (QaY i.cols)=true):=Hk (by have:=HA.out;rwa[List.take_of_length_le (by have:=HI.out;omega)] at this);have K:=az.out.below D;have g1:=K.1;have g2:=K.2.1;have g3:=K.2.2;have aX:=Hk (QiZ f _ _ _ wr (HH.out.1.below D) HH.out.2);clear D K HA;go_wp2_with (first|(go_at_call 52;fail));refine aX.out.mono ?_;rintro e4 w4 ⟨ag,⟨M,ev,rfl,U⟩|⟨aE,mv,rfl,am⟩⟩
   ·have N:Hid (¬Fine f):=Hk (fun hF=>M hF.nodup);have ae:=Hk ag;have aK:=Hk U;obtain⟨p,pl,rfl,-,-⟩:=U;clear M ag;go_wp2;go_ret;exact⟨y.out.trans ((bel_then HN.out ae.out).mono y.out.size),Or.inr ⟨N.out,_,9,rfl,by decide,aK.out,by simp⟩⟩
   ·have aM:=Hk aE;have H:=bel_then HN.out ag;have ae:=Hk H;have aI:=Hk (QkX f _ _ _ mv w4 (HH.out.1.below H) HH.out.2 (Fw.StrsR.of am));have K:=az.out.below H;have g1:=K.1;have g2:=K.2.1;have g3:=K.2.2;obtain⟨ma,mc,rfl⟩:=own_slice (show w4.ownsRow _ _ _ _ _ _ from am);clear aE am ag H K;go_wp2_with (first|(go_at_call 53;fail));refine aI.out.mono ?_;rintro e5 w5 ⟨af,⟨ay,rfl⟩|⟨M,ev,n,rfl,aC,U,aw⟩⟩
    ·have aV:Hid (Fine f):=Hk ((QjV f).2 ⟨aZ.out,aM.out,ay⟩);have ao:=Hk af;clear ay af;go_wp2;go_ret;exact⟨y.out.trans ((bel_then ae.out ao.out).mono y.out.size),Or.inl ⟨aV.out,rfl⟩⟩
    ·have N:Hid (¬Fine f):=Hk (fun hF=>M ((QjV f).1 hF).2.2);have ao:=Hk af;have aj:=Hk (Ai U (Ai aC aw));obtain⟨p,pl,rfl,-,-⟩:=U;clear M af aC aw;go_wp2;go_ret;exact⟨y.out.trans ((bel_then ae.out ao.out).mono y.out.size),Or.inr ⟨N.out,_,n,rfl,aj.out.2.1,aj.out.1,aj.out.2.2⟩⟩
end Go.Proofs.YtjlgejennghhlaaGreatDoor.Pl
namespace Go.Proofs.YtjlgejennghhlaaGreatDoor.Pl
open Go.RowKit Go.Maps
open Fw (By FJob Flw ba Qck QbH zeroJ)
abbrev AM:=List (By×Value)
def Qbt (A:AM) (n:By):Option Value:=(A.find? fun x=>x.1==n).map (·.2)
def Qlk (A:AM):Lit->Option Value
 |.string s=>Qbt A s
 |_=>none
abbrev keysA (A:AM):List By:=A.map (·.1)
theorem QcK {A:AM} {n:By} (h:n∉keysA A):Qbt A n=none:=by
 unfold Qbt;rw[List.find?_eq_none.2 (fun x hx=>by
  intro q;exact h (List.mem_map.2 ⟨x,hx,by simpa using q⟩))]
 rfl
theorem Qie {A:AM} {n:By} {v:Value} (h:n∉keysA A):Dk.putM (Qlk A) (.string n) v=Qlk (A++[(n,v)]):=by
 funext l
 by_cases e:l=.string n
 ·subst e;rw[Dk.putM_at]
  show some v=Qbt (A++[(n,v)]) n
  have y:=QcK h;unfold Qbt at y⊢;rw[List.find?_append]
  cases hf:A.find? fun x=>x.1==n with
  |none=>simp
  |some x=>rw[hf] at y;cases y
 ·rw[Dk.putM_off _ _ e]
  cases l with
  |string s=>
   have F:s≠n:=fun q=>e (by rw[q])
   show Qbt A s=Qbt (A++[(n,v)]) s
   unfold Qbt;rw[List.find?_append]
   cases hf:A.find? fun x=>x.1==s with
   |none=>
    have D:¬n=s:=fun q=>F q.symm
    simp[D]
   |some x=>rfl
  |_=>rfl
structure MapC (w:World) (b:Nat) (A:AM):Prop where
 is:∃D:DataW Value,w.ownsMap Tryz.prog 9 Dk.Rv b A.length D/\Dk.Sees D (Qlk A)/\Maps.size D=A.length
 nd:(keysA A).Nodup
theorem QbN:Keyed Tryz.prog 9:=string_keyed Tryz.underlying9
theorem MapC.mapIs {w:World} {b:Nat} {A:AM} (h:MapC w b A):Dk.MapIs w 9 b A.length (Qlk A):=by
 obtain⟨D,y,F,-⟩:=h.is;exact⟨D,y,F⟩
theorem MapC.made (w:World):MapC (w.alloc (.map #[] 0)) w.heap.size []:=⟨⟨.map [],World.ownsMap_made w _ _ Dk.Rv,⟨isMap_empty,fun kl=>by cases kl<;>exact⟨rfl,fun z=>rfl⟩⟩,rfl⟩,by simp⟩
theorem MapC.lt {w:World} {b:Nat} {A:AM} (h:MapC w b A):b<w.heap.size:=h.mapIs.lt
theorem MapC.block {w w':World} {b:Nat} {A:AM} (h:MapC w b A) (J:w'.heap[b]? =w.heap[b]?):MapC w' b A:=by
 obtain⟨⟨D,⟨es,c,H,y⟩,I⟩,F⟩:=h;exact⟨⟨D,⟨es,c,J.trans H,y⟩,I⟩,F⟩
theorem MapC.below {w w':World} {b:Nat} {A:AM} (h:MapC w b A) (y:Below w.heap.size w w'):MapC w' b A:=h.block (y.block b h.lt)
theorem MapC.obj {w:World} {b:Nat} {A:AM} (h:MapC w b A):∃es c,w.heap[b]? =some (.map es c):=by
 obtain⟨D,⟨es,c,y,-⟩,-⟩:=h.is;exact⟨es,c,y⟩
theorem MapC.put {w:World} {b:Nat} {A:AM} {n:By} (h:MapC w b A) (J:n∉keysA A) (K:A.length<1000000) (hs:n.length<=1000) (v:Value):
 ∃w',(Instr.mapUpdate 32 (.map (some b)) (.string (ba n)) v).run Tryz.prog w=.ok () w'/\MapC w' b (A++[(n,v)])/\w.grownBy w' (some b)/\w'.heap.size=w.heap.size:=by
 obtain⟨D,I,H,Z⟩:=h.is;have y:keyOf Tryz.prog 9 (.string (ba n))=some (.string n):=Dk.str_key Tryz.underlying9 (ba n) (Nat.le_trans hs (by decide));obtain⟨U,F,-,O,N⟩:=(show Dk.MapIs w 9 b A.length (Qlk A) from⟨D,I,H⟩).put QbN Tryz.underlying32 (Nat.lt_of_lt_of_le K (by decide)) y v
 obtain⟨w',V,q2,q3⟩:=I.update (val:=v) QbN Tryz.underlying32 (Nat.lt_of_lt_of_le K (by decide)) y (show Dk.Rv v=some (.held v,[]) from rfl);have e:=(Result.ok.inj (F.symm.trans V)).2;subst e;refine⟨U,F,⟨⟨D.put (.string n) (.held v),?_,?_,?_⟩,?_⟩,O,N⟩
 ·rw[List.length_append];exact q2
 ·rw[<-Qie J];exact H.put (QbN.key y) v
 ·obtain⟨es,rfl,M,-⟩:=I.entries QbN;rw[size_put ⟨es,rfl,M⟩,List.length_append,List.length_singleton];have:has (DataW.map es) (.string n)=false:=by
   rw[(H.2 (.string n)).1]
   show(Qbt A n).isSome=false
   rw[QcK J];rfl
  rw[this,Z];rfl
 ·rw[keysA,List.map_append];exact Qdt h.nd J
theorem MapC.look {w:World} {b:Nat} {A:AM} (h:MapC w b A) (n:By) (D:n.length<=1000) (c:Bool):
 (Instr.lookup 32 (.map (some b)) (.string (ba n)) c).run Tryz.prog w=.ok (if c then .tuple #[(Qbt A n).getD (.slice none 0 0),.bool (Qbt A n).isSome] else(Qbt A n).getD (.slice none 0 0)) w:=by
 have y:keyOf Tryz.prog 9 (.string (ba n))=some (.string n):=Dk.str_key Tryz.underlying9 (ba n) (Nat.le_trans D (by decide));exact h.mapIs.look QbN Tryz.underlying32 (z:=.slice none 0 0) (by kernel_rfl) y c
theorem MapC.len {w:World} {b:Nat} {A:AM} (h:MapC w b A) (y:TypeId):(Builtin.len_ #[32] y #[.map (some b)]).run Tryz.prog w=.ok (.int .i64 (A.length:Nat)) w:=by
 obtain⟨D,F,I,H⟩:=h.is;rw[<-H];exact F.len Tryz.underlying32 y
def QbJ (w:World):AM->CM->Prop
 |[],[]=>True
 |a::A,c::m=>(a.1=c.1/\Qgg w a.2 c.2)/\QbJ w A m
 |_,_=>False
theorem QbJ.imp {w w':World} {A:AM} {m:CM} (h:QbJ w A m) (y:∀c∈m,QeA c.2) (D:∀u cs,QeA cs->Qgg w u cs->Qgg w' u cs):QbJ w' A m:=by
 induction A generalizing m with
 |nil=>cases m with
  |nil=>trivial
  |cons c m=>exact h.elim
 |cons a A ih=>cases m with
  |nil=>exact h.elim
  |cons c m=>exact⟨⟨h.1.1,D _ _ (y c (by simp)) h.1.2⟩,ih h.2 (fun x hx=>y x (by simp[hx]))⟩
theorem QbJ.keys {w:World} {A:AM} {m:CM} (h:QbJ w A m):keysA A=keysM m:=by
 induction A generalizing m with
 |nil=>cases m with
  |nil=>rfl
  |cons c m=>exact h.elim
 |cons a A ih=>cases m with
  |nil=>exact h.elim
  |cons c m=>simp only[keysA,keysM,List.map_cons];rw[h.1.1];congr 1;exact ih h.2
theorem QbJ.snoc {w:World} {A:AM} {m:CM} {n:By} {u:Value} {cs:Cs} (h:QbJ w A m) (y:Qgg w u cs):QbJ w (A++[(n,u)]) (m++[(n,cs)]):=by
 induction A generalizing m with
 |nil=>cases m with
  |nil=>exact⟨⟨rfl,y⟩,trivial⟩
  |cons c m=>exact h.elim
 |cons a A ih=>cases m with
  |nil=>exact h.elim
  |cons c m=>exact⟨h.1,ih h.2⟩
theorem QbJ.look {w:World} {A:AM} {m:CM} (h:QbJ w A m) {n:By} (y:n∈keysM m):∃u cs,Qbt A n=some u/\QbL m n=some cs/\Qgg w u cs/\(n,cs)∈m:=by
 induction A generalizing m with
 |nil=>cases m with
  |nil=>cases y
  |cons c m=>exact h.elim
 |cons a A ih=>cases m with
  |nil=>exact h.elim
  |cons c m=>
   unfold Qbt QbL
   by_cases e:c.1=n
   ·refine⟨a.2,c.2,by simp[h.1.1,e],by simp[e],h.1.2,by rw[<-e];simp⟩
   ·obtain⟨u,cs,H,D,I,F⟩:=ih h.2 ((List.mem_cons.1 y).resolve_left (fun q=>e q.symm));refine⟨u,cs,?_,?_,I,by simp[F]⟩
    ·rw[List.find?_cons_of_neg (by simp[h.1.1,e])];exact H
    ·rw[List.find?_cons_of_neg (by simp[e])];exact D
theorem Qgg.put {w w':World} {u:Value} {cs:Cs} {b:Nat} (h:Qgg w u cs) (K:QeA cs) (O:∃es c,w.heap[b]? =some (.map es c)) (I:w.grownBy w' (some b)):Qgg w' u cs:=by
 obtain⟨k,o,c,N,M,H,D⟩:=h;have F:k≠b:=by
  rintro rfl;obtain⟨es,cl,J⟩:=O;have:=(D 0 K.1).1;simp[World.cell?,J] at this
 refine⟨k,o,c,N,M,Nat.lt_of_lt_of_le H I.size,fun j hj=>?_⟩;have y:=I.block k H (by intro e;injection e with e;exact F e);exact⟨(World.cell?_of_block y).trans (D j hj).1,(World.cell?_of_block y).trans (D j hj).2⟩
end Go.Proofs.YtjlgejennghhlaaGreatDoor.Pl
