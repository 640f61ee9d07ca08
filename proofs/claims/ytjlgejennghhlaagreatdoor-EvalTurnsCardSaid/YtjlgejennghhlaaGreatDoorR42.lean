import Derived.Maps.OwnSet
import Derived.Test.YtjlgejennghhlaaGreatDoorR01
import Derived.Test.YtjlgejennghhlaaGreatDoorR38
import Derived.Test.YtjlgejennghhlaaGreatDoorR41
import Derived.Test.YtjlgejennghhlaaGreatDoorR31
import Derived.Test.YtjlgejennghhlaaGreatDoorR07
set_option linter.unusedSimpArgs false
set_option linter.unusedVariables false
set_option linter.unusedSectionVars false
set_option maxRecDepth 1000000
set_option maxHeartbeats 16000000
namespace Go.Proofs.YtjlgejennghhlaaGreatDoor.Pl
open Go.RowKit
open Fw (By FJob Flw ba Qcl QbK zeroJ)
structure Fine (f:Flw):Prop where
 cols:∀i∈f.ins,Qaj (Qa0 i.cols)=true
 nodup:(Qaw f).Nodup
 reads:∀j∈f.jobs,∀n∈j.ins,n∈Qaw f
 outs:∀o∈f.outs,o.from_∈Qaw f
 told:(f.outs.map (·.name)).Nodup
theorem QoM (l:List By) (x:By):Qcl (l++[x])=Qcl l++[.string (ba x)]:=by simp[Qcl]
theorem QeE {w w':World} {B:Nat} {l:List By} {v:Value} (h:QbK B l v w) (y:Below w.heap.size w w'):QbK B l v w':=owns_below h y
theorem one1t (x:ByteArray):∀u∈[Value.string x],u.oneCell'=true:=by intro u h;simp at h;subst h;rfl
theorem Qhc {l r:List By} {x:By} {m:List By} (h:l=m++x::r) (y:x∈m):¬l.Nodup:=by
 rw[h];intro D;exact(List.nodup_append.1 D).2.2 x y x (by simp) rfl
theorem Qdy {l:List By} {x:By} (h:l.Nodup) (y:x∉l):(l++[x]).Nodup:=by
 rw[List.nodup_append];exact⟨h,by simp,fun a ha b hb=>by rw[List.mem_singleton.1 hb];rintro rfl;exact y ha⟩
def Qr4 (f:Flw) (w:World) (e:Ending) (w':World):Prop:=Below w.heap.size w w'/\
 ((¬(Qaw f).Nodup/\∃ev,e=.returned (.tuple #[.slice none 0 0,ev])/\AtV w' ev 9)\/
  ((Qaw f).Nodup/\∃mv,e=.returned (.tuple #[mv,.nilIface])/\QbK w.heap.size (Qaw f) mv w'))
theorem Qhd {f:Flw} (y:Fw.FlwOK f):(Qaw f).length<=16016:=by
 unfold Qaw;rw[List.length_append,List.length_map];have F:=y.il;have D:∀l:List FJob,(∀j∈l,j.outs.length<=1000)->(l.flatMap (·.outs)).length<=l.length*1000:=by
  intro l
  induction l with
  |nil=>intro _;simp
  |cons a r ih=>
   intro h;have:=ih (fun j hj=>h j (by simp[hj]));have:=h a (by simp);rw[List.flatMap_cons,List.length_append,List.length_cons];omega
 have H:=D f.jobs (fun j hj=>(y.jobs j hj).ol);have E:=y.jl;have:f.jobs.length*1000<=16000:=by omega
 omega
theorem pre_len {f:Flw} (y:Fw.FlwOK f) {m r:List By} (h:Qaw f=m++r):m.length<=16016:=by
 have:=Qhd y;rw[h,List.length_append] at this;omega
theorem Qng {w:World} {f:Flw} {D O K:Value} (h:Fw.FlowRd w f D O K) {k:Nat} (y:k<f.ins.length):∃b c,D=.slice (some ⟨b,0,none⟩) f.ins.length c/\f.ins.length<=c/\b<w.heap.size/\∃v,w.cell? ⟨b,k*3,none⟩=some (.int .i64 (f.ins[k].at_:Nat))/\w.cell? ⟨b,k*3+1,none⟩=some (.string (ba f.ins[k].name))/\w.cell? ⟨b,k*3+2,none⟩=some v/\Fw.ColsR w v f.ins[k].cols:=by
 rcases h.ins with ⟨-,e⟩|⟨b,c,e,U,N,V⟩
 ·rw[e] at y;exact absurd y (by simp)
 ·obtain⟨a,v,F,J,H,M,I⟩:=V k y;obtain⟨_,E⟩:=List.getElem?_eq_some_iff.1 F;subst E;exact⟨b,c,e,U,N,v,J,H,M,I⟩
theorem Qpo {w:World} {f:Flw} {J N D:Value} (h:Fw.FlowRd w f J N D) {k:Nat} (y:k<f.outs.length):∃b c,D=.slice (some ⟨b,0,none⟩) f.outs.length c/\f.outs.length<=c/\b<w.heap.size/\w.cell? ⟨b,k*3,none⟩=some (.int .i64 (f.outs[k].at_:Nat))/\w.cell? ⟨b,k*3+1,none⟩=some (.string (ba f.outs[k].name))/\w.cell? ⟨b,k*3+2,none⟩=some (.string (ba f.outs[k].from_)):=by
 rcases h.outs with ⟨-,e⟩|⟨b,c,e,O,M,U⟩
 ·rw[e] at y;exact absurd y (by simp)
 ·obtain⟨a,F,I,H,K⟩:=U k y;obtain⟨_,E⟩:=List.getElem?_eq_some_iff.1 F;subst E;exact⟨b,c,e,O,M,I,H,K⟩
theorem Qhe (wr:World) (y:List Value) (h:y.length=15) (E:y.toArray.all (·.oneCell')=true):∃w2,w2=(wr.alloc (.cells zeroJ 50)).setCells wr.heap.size 0 y/\Below wr.heap.size wr w2/\Fw.Box w2 wr.heap.size y/\w2.heap.size=wr.heap.size+1/\(Tryz.prog.info? 50).map (·.size)=some y.length/\(wr.alloc (.cells zeroJ 50)).there wr.heap.size 0 y.toArray.size:=by
 refine⟨_,rfl,(Qaa _ _).trans (Fw.below_setCells (Nat.le_refl _) _ _ _),⟨_,Fw.job_stored wr y h⟩,by rw[Fw.size_sets];simp,by rw[h];exact Fw.job_info,?_⟩;have D:y.toArray.size=15:=h;rw[D];exact Fw.job_there wr
theorem Qdz {w:World} {j:FJob} {D y h:Value} (F:Fw.StrsR w D j.outs) (E:Fw.StrsR w y j.ins) (H:Fw.StrsR w h j.cols):(Fw.jobV j D y h).toArray.all (·.oneCell')=true:=by
 obtain⟨I,c1,rfl⟩:=strs_slice F;obtain⟨J,c2,rfl⟩:=strs_slice E;obtain⟨K,c3,rfl⟩:=strs_slice H;simp[Fw.jobV,Value.oneCell']
end Go.Proofs.YtjlgejennghhlaaGreatDoor.Pl
namespace Go.Proofs.YtjlgejennghhlaaGreatDoor.Pl
open Go.RowKit
open Fw (By FJob Flw ba Qcl QbK zeroJ)
structure MkS (f:Flw) (w1 wr:World) (mv:Value) (m:List By):Prop where
 low:Below w1.heap.size w1 wr
 row:QbK w1.heap.size m mv wr
 nd:m.Nodup
 pre:∃r,Qaw f=m++r
theorem MkS.below {f:Flw} {y wr w':World} {mv:Value} {m:List By} (h:MkS f y wr mv m) (D:Below wr.heap.size wr w'):MkS f y w' mv m:=⟨bel_then h.low D,QeE h.row D,h.nd,h.pre⟩
theorem MkS.snoc {f:Flw} {y wr D:World} {mv F:Value} {m:List By} {x:By} (h:MkS f y wr mv m) (M:x∉m) (H:∃r,Qaw f=m++x::r) (I:D.ownsRow y.heap.size 9 1 F (m.length+1) (Qcl m++[.string (ba x)])) (K:(wr.alloc (.cells #[.string (ba x)] 9)).grownBy D mv.ownBlock):MkS f y D F (m++[x]):=by
 have E:=h.low.size;refine⟨(h.low.alloc E _).grown K (by simp;omega) (fun q hq=>(h.row.lt q hq).1),?_,Qdy h.nd M,?_⟩
 ·unfold QbK;rw[QoM,List.length_append];exact I
 ·obtain⟨r,J⟩:=H;exact⟨r,by rw[J];simp⟩
theorem MkS.has {f:Flw} {D wr:World} {mv:Value} {m:List By} (h:MkS f D wr mv m) (E:Fw.FlwOK f) (x:By) (V:World) (y:Below wr.heap.size wr V):Calls Tryz.prog 37 #[mv,.string (ba x)] V fun e w'=>e=.returned (.bool (m.contains x))/\w'=V:=by
 obtain⟨r,F⟩:=h.pre;exact Qhb (Fw.StrsR.of (QeE h.row y)) (by have:=pre_len E F;omega) x
theorem Qk8 {l:List Fw.FIn} {k:Nat} (h:k<l.length):(l.take (k+1)).map (·.name)=(l.take k).map (·.name)++[l[k].name]:=by
 rw[List.take_succ_eq_append_getElem h,List.map_append];rfl
theorem QpV {f:Flw} {k:Nat} (h:k<f.ins.length):∃r,Qaw f=(f.ins.take k).map (·.name)++f.ins[k].name::r:=by
 refine⟨(f.ins.drop (k+1)).map (·.name)++f.jobs.flatMap (·.outs),?_⟩;unfold Qaw;have e:f.ins=f.ins.take k++f.ins[k]::f.ins.drop (k+1):=by rw[<-List.drop_eq_getElem_cons h,List.take_append_drop]
 conv=>lhs;rw[e]
 simp only[List.map_append,List.map_cons,List.append_assoc,List.cons_append]
theorem QoN {f:Flw} {q r:Nat} (h:q<f.jobs.length) (E:r<f.jobs[q].outs.length):∃s,Qaw f=(f.ins.map (·.name)++(f.jobs.take q).flatMap (·.outs)++f.jobs[q].outs.take r)++f.jobs[q].outs[r]::s:=by
 refine⟨f.jobs[q].outs.drop (r+1)++(f.jobs.drop (q+1)).flatMap (·.outs),?_⟩;unfold Qaw;have e:f.jobs=f.jobs.take q++f.jobs[q]::f.jobs.drop (q+1):=by rw[<-List.drop_eq_getElem_cons h,List.take_append_drop]
 have D:f.jobs[q].outs=f.jobs[q].outs.take r++f.jobs[q].outs[r]::f.jobs[q].outs.drop (r+1):=by rw[<-List.drop_eq_getElem_cons E,List.take_append_drop]
 have y:f.jobs.flatMap (·.outs)=(f.jobs.take q).flatMap (·.outs)++(f.jobs[q].outs++(f.jobs.drop (q+1)).flatMap (·.outs)):=by
  conv=>lhs;rw[e]
  rw[List.flatMap_append,List.flatMap_cons]
 rw[y]
 conv=>lhs;rw[D]
 simp only[List.append_assoc,List.cons_append]
theorem Qnh {f:Flw} {q:Nat} (h:q<f.jobs.length):(f.jobs.take (q+1)).flatMap (·.outs)=(f.jobs.take q).flatMap (·.outs)++f.jobs[q].outs:=by
 rw[List.take_succ_eq_append_getElem h,List.flatMap_append];simp
theorem QdS {w:World} {v:Value} {l:List (By×Int)} (h:Fw.ColsR w v l):∃a c,v=.slice a l.length c:=by
 rcases h with ⟨rfl,rfl⟩|⟨b,o,c,rfl,-⟩
 ·exact⟨_,_,rfl⟩
 ·exact⟨_,_,rfl⟩
theorem Qk9 {w:World} {B K n z:Nat} {e E:TypeId} {v:Value} {xs:List Value} {cs:Array Value} (D:e≠E) (h:w.ownsRow B e z v n xs) (y:w.heap[K]? =some (.cells cs E (0,0))):v.ownBlock≠some K:=by
 intro he;obtain⟨-,⟨rfl,-⟩|⟨g,I,H,rfl,-,F,-⟩⟩:=h
 ·cases he
 ·simp only[Value.ownBlock,Option.some.injEq] at he;subst he;rw[F] at y;simp at y;exact D y.2
theorem Qjd (f:Flw) (vi vj vo:Value) (w:World) (h:Fw.FlowRd w f vi vj vo) (hf:Fw.FlwOK f):
 Calls Tryz.prog 52 #[.agg #[vi,vj,vo]] w fun e w'=>Qr4 f w e w':=by
 obtain⟨i0,hi,a6,bj,bh⟩:=info_parts Fw.Tryz.infoStr;obtain⟨ia,ic,rfl⟩:=row_slice h.ins;obtain⟨ja,jc,rfl⟩:=row_slice h.jobs;obtain⟨I,hI⟩:∃I,f.ins.length=I:=⟨_,rfl⟩;obtain⟨J,hJ⟩:∃J,f.jobs.length=J:=⟨_,rfl⟩;have cg:I<=16:=by rw[<-hI];exact hf.il
 have cf:J<=16:=by rw[<-hJ];exact hf.jl
 rw[hI,hJ] at h⊢;obtain⟨w1,a4⟩:∃x,w.alloc (.cells #[.slice ia I ic,.slice ja J jc,vo] 29)=x:=⟨_,rfl⟩;have aB:Below w.heap.size w w1:=by rw[<-a4];exact Qaa _ _
 have aN:Qcx w1 w.heap.size (.slice ia I ic) (.slice ja J jc) vo:=by rw[<-a4];exact Qcx.new _ _ _ _ _
 have aa:=Hk aB;have bE:=Hk aN;have HH:=Hk (Ai (h.below aB) hf);have HI:=Hk hI;have HJ:=Hk hJ;have g1:=aN.1;have a8:Hid (∀(pl:Int) V,Calls Tryz.prog 51 #[.int .i64 9,.int .i64 pl] V fun e w'=>∃p,e=.returned (.iface 100 (.pointer (some ⟨p,0,none⟩)))/\AtV w' (.iface 100 (.pointer (some ⟨p,0,none⟩))) 9/\Below V.heap.size V w'):=Hk fun pl V=>Qih 9 pl V
 clear h hf hI hJ aB aN;go_enter Tryz.func52,Tryz.ntmps52;go_wp2;go_loopw [4,14] (fun mv i wr=>∃k:Nat,k<=I/\i=.int .i64 k/\MkS f w1 wr mv ((f.ins.take k).map (·.name))) (fun _ i _=>I-(intOf i).toNat)
 case atStart=>exact⟨0,Nat.zero_le _,rfl,Below.refl _ _,World.ownsRow_nil _ _ _ _,by simp,⟨Qaw f,by simp⟩⟩
 case round=>
  obtain⟨k,hk,rfl,F⟩:=hrel;obtain⟨ma,mc,rfl⟩:=own_slice (show wr.ownsRow _ _ _ _ _ _ from F.row);have K:=Hk F;have bN:=F.low.size
  by_cases hlt:k<I
  ·have aD:k<f.ins.length:=by rw[HI.out];exact hlt
   obtain⟨b,c,e0,bo,hb,v,d0,d1,d2,bm⟩:=Qng (HH.out.1.below F.low) aD;simp only[Value.slice.injEq] at e0;obtain⟨rfl,-,rfl⟩:=e0;obtain⟨ca,cc,rfl⟩:=QdS bm;clear bm;have U:=Hk (F.has HH.out.2 f.ins[k].name);have E:=Hk (QpV aD);have aU:=Hk (Qk8 aD);obtain⟨m,hm⟩:∃m,(f.ins.take k).map (·.name)=m:=⟨_,rfl⟩;rw[hm] at U E aU K F⊢;obtain⟨x,hx⟩:∃x,f.ins[k].name=x:=⟨_,rfl⟩;rw[hx] at U E aU d1;have bL:m.length<=16016:=by obtain⟨r,hr⟩:=F.pre;exact pre_len HH.out.2 hr
   obtain⟨bx,Z⟩:∃bx,ba x=bx:=⟨_,rfl⟩;rw[Z] at U d1;generalize f.ins[k].at_=pl at*;generalize f.ins[k].cols.length=cn at*;have az:=Hk Z;clear F hm hx Z
   cases hcx:m.contains x with
   |true=>
    rw[hcx] at U;have aE:Hid (¬(Qaw f).Nodup):=Hk (by
     obtain⟨r,hr⟩:=E.out;exact Qhc hr (by simpa using hcx))
    clear hcx;go_wp2_with (first|(go_at_call 37;refine(U.out _ (Qaa _ _)).mono ?_;rintro e2 w2 ⟨rfl,rfl⟩)|(go_at_call 51;refine(a8.out _ _).mono ?_;rintro e3 w3 ⟨p,rfl,am,N⟩;have aJ:=Hk am;have ay:=Hk N;clear am N));refine bodyPost_ret (v:=.tuple #[.slice none 0 0,.iface 100 (.pointer (some ⟨p,0,none⟩))]) (by simp[results,Tryz.results52,go_sem]) rfl ?_;exact⟨aa.out.trans ((bel_then K.out.low (bel_then (Qaa _ _) ay.out)).mono aa.out.size),Or.inl ⟨aE.out,_,rfl,aJ.out⟩⟩
   |false=>
    rw[hcx] at U;have aS:Hid (x∉m):=Hk (by simpa using hcx);clear hcx;go_wp2_with (first|(go_at_call 37;refine(U.out _ (Qaa _ _)).mono ?_;rintro e2 w2 ⟨rfl,rfl⟩)|(at_builtin;refine wpList_append_own _ rfl _ _ 44 rfl w1.heap.size 9 i0 (.string ⟨#[]⟩) 1 16 Tryz.underlying44 hi a6 bj bh rfl (by decide) _ _ _ rfl ((QeE K.out.row (Qaa _ _)).alloc _) ⟨wr.heap.size+1,0,none⟩ 1 1 [.string bx] rfl rfl (news1 _ _ _ _ (by simp)) (one1t _) ?c3 ?c4 ?c5 ?_))
    case c3=>unfold maxLen;omega
    case c4=>omega
    case c5=>simp;omega
    intro v' w5 D y _;obtain⟨wc,aP⟩:∃wc,wr.alloc (.cells #[.int .i64 (pl:Nat),.string bx,.slice ca cn cc] 57)=wc:=⟨_,rfl⟩;rw[aP,<-az.out] at y;rw[<-az.out] at D;have a1:MkS f w1 wc (.slice ma m.length mc) m:=by rw[<-aP];exact K.out.below (Qaa _ _)
    have HF:=Hk (a1.snoc aS.out E.out D y);clear D y a1 aP;go_wp2;go_roundw
    case rel=>exact⟨k+1,by omega,by go_num,by rw[aU.out];exact HF.out⟩
    case measure=>simp[intOf];omega
  ·obtain rfl:k=I:=by omega
   have hN:(f.ins.take k).map (·.name)=f.ins.map (·.name):=by rw[List.take_of_length_le (by have:=HI.out;omega)]
   rw[hN] at K F;have hS:=(bE.out.below F.low).2.1;obtain⟨wa,bk⟩:∃x,x=wr:=⟨_,rfl⟩;rw[<-bk] at K hS⊢;rw[show((f.ins.take k).map (·.name)).length=(f.ins.map (·.name)).length by rw[hN]] at*;clear F hN bk bN;go_wp2;go_loopw [4,34] (fun mv i wr=>∃q:Nat,q<=J/\i=.int .i64 q/\MkS f w1 wr mv (f.ins.map (·.name)++(f.jobs.take q).flatMap (·.outs))) (fun _ i _=>J-(intOf i).toNat)
   case atStart=>exact⟨0,Nat.zero_le _,rfl,by simpa using K.out⟩
   case round=>
    obtain⟨q,hq,rfl,ab⟩:=hrel;clear K hS;obtain⟨wb,a9⟩:∃x,x=wr:=⟨_,rfl⟩;rw[<-a9] at ab⊢;clear a9;obtain⟨bP,b0,rfl⟩:=own_slice (show wb.ownsRow _ _ _ _ _ _ from ab.row);have K:=Hk ab
    by_cases hlt2:q<J
    ·have ax:q<f.jobs.length:=by rw[HJ.out];exact hlt2
     obtain⟨b,c,e0,bo,hb,ao,ai,ac,aQ,ho,bn,be⟩:=Qf2 HH.out.1 ax;have aC:wb.rangeAt b (q*15) (Fw.jobV f.jobs[q] ao ai ac):=fun j u hj=>(ab.low.cell (p:=⟨b,q*15+j,none⟩) hb).trans (aQ j u hj)
     clear aQ;simp only[Value.slice.injEq] at e0;obtain⟨rfl,-,rfl⟩:=e0;have af:=Qdz ho bn be;have aT:∀outs M,f.jobs[q].outs=outs->f.ins.map (·.name)++(f.jobs.take q).flatMap (·.outs)=M->∀r (hr:r<outs.length),∃s,Qaw f=(M++outs.take r)++outs[r]::s:=by
      rintro _ _ rfl rfl r hr;exact QoN ax hr
     have aO:=Hk (Qnh ax);have a7:=(HH.out.2.jobs _ (List.getElem_mem ax)).ol;have HO:=Hk ho;obtain⟨oa,oc,rfl⟩:=strs_slice ho;obtain⟨O,al⟩:∃O,Fw.jobV f.jobs[q] (.slice oa f.jobs[q].outs.length oc) ai ac=O:=⟨_,rfl⟩;have aG:O[2]? =some (.slice oa f.jobs[q].outs.length oc):=by rw[<-al];rfl
     have a3:O[0]? =some (.int .i64 (f.jobs[q].at_:Nat)):=by rw[<-al];rfl
     have bd:O.length=15:=by rw[<-al];rfl
     rw[al] at aC af;obtain⟨outs,ag⟩:∃outs,f.jobs[q].outs=outs:=⟨_,rfl⟩;generalize f.jobs[q].at_=pl at*;obtain⟨w3,aL,N,a5,cp,aM,bi⟩:=Qhe wb O bd af;have bf:w3.heap[wb.heap.size]? =some (.cells O.toArray 50 (0,0)):=by rw[aL];exact Fw.job_stored wb O bd
     have b2:=Hk aC;have bB:=Hk af;have bg:=Hk aM;have bX:=Hk bi;have bO:=Hk aL;have bU:=Hk bf;have ay:=Hk N;have bb:=a5.cell 2 aG;simp only[ag] at bb a7 aO HO aG;have bC:=Hk a3;obtain⟨M,F⟩:∃M,f.ins.map (·.name)++(f.jobs.take q).flatMap (·.outs)=M:=⟨_,rfl⟩;have bZ:Hid (f.ins.map (·.name)++(f.jobs.take (q+1)).flatMap (·.outs)=M++outs):=Hk (by rw[aO.out,<-List.append_assoc,F]);have bv:=Hk (aT outs M ag F);rw[F] at K⊢;have bY:=Hk (K.out.below N);clear ab aC af aM bi aL a5 bf N ho bn be al aG a3 F aO aT ag;go_wp2_with (first|(refine wpList_load_mid rfl 50 (.tmp 36) rfl b (q*15) rfl O _ b2.out Tryz.underlying50 rfl bg.out ?_)|(refine wpList_store_mid rfl 50 (.tmp 8) (.tmp 37) rfl wb.heap.size 0 O.toArray rfl rfl bX.out bg.out bB.out ?_;rw[show O.toArray.toList=O from rfl,<-bO.out]));obtain⟨n,hn⟩:∃n,outs.length=n:=⟨_,rfl⟩;have HN:=Hk hn;rw[hn] at a7 HO bb⊢;clear hn;go_loopw [4,41] (fun mv i wr=>∃r:Nat,r<=n/\i=.int .i64 r/\MkS f w1 wr mv (M++outs.take r)/\wr.heap[wb.heap.size]? =some (.cells O.toArray 50 (0,0))) (fun _ i _=>n-(intOf i).toNat)
     case atStart=>exact⟨0,Nat.zero_le _,rfl,by simpa using bY.out,bU.out⟩
     case round=>
      obtain⟨r,hr,rfl,H,av⟩:=hrel;obtain⟨bV,bz,rfl⟩:=own_slice (show wr.ownsRow _ _ _ _ _ _ from H.row);have ap:=Hk H;have aR:=Hk av;have ch:=H.low.size
      by_cases hlt3:r<n
      ·have ak:r<outs.length:=by have:=HN.out;omega
       rcases HO.out with ⟨-,e0⟩|⟨ob,oo,cq,e0,b7,bI,aw⟩
       ·rw[e0] at ak;exact absurd ak (by simp)
       simp only[Value.slice.injEq] at e0;obtain⟨rfl,-,rfl⟩:=e0;have d1:=(H.low.cell (p:=⟨ob,oo+r,none⟩) bI).trans (aw r ak);obtain⟨x,hx⟩:∃x,outs[r]=x:=⟨_,rfl⟩;have E:Hid (∃s,Qaw f=(M++outs.take r)++x::s):=Hk (by rw[<-hx];exact bv.out r ak);have a2:Hid (M++outs.take (r+1)=(M++outs.take r)++[x]):=Hk (by rw[List.take_succ_eq_append_getElem ak,hx,List.append_assoc]);rw[hx] at d1;obtain⟨m,hm⟩:∃m,M++outs.take r=m:=⟨_,rfl⟩;rw[hm] at E a2 ap H⊢;have U:=Hk (H.has HH.out.2 x wr (Below.refl _ _));have bL:m.length<=16016:=by obtain⟨s,hs⟩:=H.pre;exact pre_len HH.out.2 hs
       obtain⟨bx,Z⟩:∃bx,ba x=bx:=⟨_,rfl⟩;rw[Z] at U d1;have az:=Hk Z;have dA:=Fw.blk_cell (i:=0) av (by simpa using bC.out);clear H hm hx Z aw av
       cases hcx:m.contains x with
       |true=>
        rw[hcx] at U;have aE:Hid (¬(Qaw f).Nodup):=Hk (by
         obtain⟨s,hs⟩:=E.out;exact Qhc hs (by simpa using hcx))
        clear hcx;go_wp2_with (first|(go_at_call 37;refine U.out.mono ?_;rintro e2 w2 ⟨rfl,h2⟩;obtain rfl:wr=w2:=h2.symm;clear h2)|(go_at_call 51;refine(a8.out _ _).mono ?_;rintro e3 w3 ⟨p,rfl,am,N⟩;have aJ:=Hk am;have ay:=Hk N;clear am N));refine bodyPost_ret (v:=.tuple #[.slice none 0 0,.iface 100 (.pointer (some ⟨p,0,none⟩))]) (by simp[results,Tryz.results52,go_sem]) rfl ?_;exact⟨aa.out.trans ((bel_then ap.out.low ay.out).mono aa.out.size),Or.inl ⟨aE.out,_,rfl,aJ.out⟩⟩
       |false=>
        rw[hcx] at U;have aS:Hid (x∉m):=Hk (by simpa using hcx);clear hcx;go_wp2_with (first|(go_at_call 37;refine U.out.mono ?_;rintro e2 w2 ⟨rfl,h2⟩;obtain rfl:wr=w2:=h2.symm;clear h2)|(at_builtin;refine wpList_append_own _ rfl _ _ 44 rfl w1.heap.size 9 i0 (.string ⟨#[]⟩) 1 16 Tryz.underlying44 hi a6 bj bh rfl (by decide) _ _ _ rfl (ap.out.row.alloc _) ⟨wr.heap.size,0,none⟩ 1 1 [.string bx] rfl rfl (news1 _ _ _ _ rfl) (one1t _) ?c3 ?c4 ?c5 ?_))
        case c3=>unfold maxLen;omega
        case c4=>omega
        case c5=>simp;omega
        intro v' w5 D y _;rw[<-az.out] at y D;have HF:=Hk (ap.out.snoc aS.out E.out D y);have bQ:wb.heap.size<wr.heap.size:=(Array.getElem?_eq_some_iff.1 aR.out).1;have bT:Hid (w5.heap[wb.heap.size]? =some (.cells O.toArray 50 (0,0))):=Hk (by
         rw[y.block wb.heap.size (by simp;omega) (by
          intro e;exact Qk9 (by decide) ap.out.row aR.out e.symm)]
         rw[Below.heap_alloc _ _ _ bQ];exact aR.out)
        clear D y dA;go_wp2;go_roundw
        case rel=>exact⟨r+1,by omega,by go_num,by rw[a2.out];exact HF.out,bT.out⟩
        case measure=>simp[intOf];omega
      ·obtain rfl:r=n:=by omega
       have HF:Hid (MkS f w1 wr (.slice bV (M++outs.take r).length bz) (f.ins.map (·.name)++(f.jobs.take (q+1)).flatMap (·.outs))):=Hk (by
        rw[bZ.out];have:=H;rw[show outs.take r=outs from List.take_of_length_le (by have:=HN.out;omega)] at this⊢;exact this)
       clear H av;go_wp2;go_roundw
       case rel=>exact⟨q+1,by omega,by go_num,HF.out⟩
       case measure=>simp[intOf];omega
    ·obtain rfl:q=J:=by omega
     have b1:Hid (f.ins.map (·.name)++(f.jobs.take q).flatMap (·.outs)=Qaw f):=Hk (by
      rw[List.take_of_length_le (by have:=HJ.out;omega)];rfl)
     rw[b1.out] at K ab⊢;clear ab;go_wp2;refine bodyPost_ret (v:=.tuple #[.slice bP (Qaw f).length b0,.nilIface]) (by simp[results,Tryz.results52,go_sem]) rfl ?_;exact⟨aa.out.trans (K.out.low.mono aa.out.size),Or.inr ⟨K.out.nd,_,rfl,own_mono aa.out.size K.out.row⟩⟩
end Go.Proofs.YtjlgejennghhlaaGreatDoor.Pl
namespace Go.Proofs.YtjlgejennghhlaaGreatDoor.Pl
open Go.RowKit
open Fw (By FJob Flw ba Qcl QbK zeroJ)
theorem Qje (at_ I:Int) (x y D H:ByteArray) (C:Nat) (r:Bool) (w:World) (h:w.cell? ⟨C,1,none⟩=some (.string y)) (J:(x.toList==y.toList)=r):Calls Tryz.prog 90 #[.agg #[.int .i64 at_,.string x,.string D],.pointer (some ⟨C,0,none⟩)] w fun e w'=>e=.returned (.bool r)/\Below w.heap.size w w':=by
 have E:=World.block_lt_of_cell? w _ h;have F:(w.alloc (.cells #[.int .i64 at_,.string x,.string D] 60)).cell? ⟨C,1,none⟩=some (.string y):=by rw[World.cell?_alloc_lt _ _ ⟨C,1,none⟩ E];exact h
 clear h;go_enter Tryz.func90,Tryz.ntmps90;go_wp2;go_ret;exact⟨rfl,Qaa _ _⟩
theorem QoO (b c n:Nat) (l:List Fw.FOut) (nm:By) (C:Nat) (w:World) (M:b<w.heap.size) (h:∀j,j<l.length->Fw.OutAt l j w b (j*3)) (hn:n<=l.length) (al:n<=100) (U:w.cell? ⟨C,1,none⟩=some (.string (ba nm))):
 Calls Tryz.prog 123 #[.slice (some ⟨b,0,none⟩) n c,.func (.func 90) #[] #[.pointer (some ⟨C,0,none⟩)]] w fun e w'=>∃r:Int,e=.returned (.int .i64 r)/\foundI r ((l.take n).any fun i=>i.name==nm)/\Below w.heap.size w w':=by
 have HR:=Hk h;have HC:=Hk U;have HN:=Hk hn;clear h U hn;go_enter Tryz.func123,Tryz.ntmps123;go_wp2;go_loopw [8] (fun i wr=>∃k:Nat,k<=n/\i=.int .i64 k/\((l.take n).take k).any (fun i=>i.name==nm)=false/\Below w.heap.size w wr) (fun i _=>n-(intOf i).toNat)
 case atStart=>exact⟨0,Nat.zero_le _,rfl,rfl,Below.refl _ _⟩
 case round=>
  obtain⟨k,hk,rfl,K,D⟩:=hrel;have HA:=Hk K;clear K
  by_cases hlt:k<n
  ·have V:k<l.length:=by have:=HN.out;omega
   have J:k<(l.take n).length:=by rw[List.length_take];omega
   obtain⟨a,ha,d0,Z,O⟩:=HR.out k V;have e0:=cK D M d0;have e1:=cK D M Z;have e2:=cK D M O;obtain⟨_,I⟩:=List.getElem?_eq_some_iff.1 ha;have hl:=World.block_lt_of_cell? w _ HC.out;have N:=Hk (Qje (a.at_:Nat) 0 (ba a.name) (ba nm) (ba a.from_) (ba a.from_) C (a.name==nm) wr (cK D hl HC.out) (QqF _ _));have HX:Hid (∀p,(a.name==nm)=p->(fun i:Fw.FOut=>i.name==nm) (l.take n)[k]=p):=Hk (fun p hp=>by rw[List.getElem_take,I];exact hp);generalize ba a.name=x at*;generalize ba a.from_=y at*;have F:=Hk D;clear D d0 Z O ha I
   cases hp:(a.name==nm)
   all_goals have HP:=Hk (HX.out _ hp)
   all_goals rw[hp] at N
   all_goals clear hp HX
   ·go_wp2_with (go_at_call 90;refine N.out.mono ?_;rintro e w2 ⟨rfl,E⟩;have H:=Hk (F.out.trans (E.mono F.out.size));clear E);go_roundw
    case rel=>exact⟨k+1,by omega,by go_num,any_step J HA.out HP.out,H.out⟩
    case measure=>simp[intOf];omega
   ·go_wp2_with (go_at_call 90;refine N.out.mono ?_;rintro e w2 ⟨rfl,E⟩;have H:=Hk (F.out.trans (E.mono F.out.size));clear E);go_ret;exact⟨k,rfl,⟨by omega,by omega,by rw[any_hit J HP.out];simp⟩,H.out⟩
  ·go_wp2;go_ret;exact⟨-1,rfl,⟨by omega,by omega,by have:=HA.out;rw[List.take_of_length_le (l:=l.take n) (by rw[List.length_take];omega)] at this;rw[this];rfl⟩,D⟩
theorem QoP (b c n:Nat) (l:List Fw.FOut) (nm:By) (C:Nat) (w:World) (H:b<w.heap.size) (h:∀j,j<l.length->Fw.OutAt l j w b (j*3)) (J:n<=l.length) (E:n<=100) (y:w.cell? ⟨C,1,none⟩=some (.string (ba nm))):
 Calls Tryz.prog 89 #[.slice (some ⟨b,0,none⟩) n c,.func (.func 90) #[] #[.pointer (some ⟨C,0,none⟩)]] w fun e w'=>e=.returned (.bool ((l.take n).any fun i=>i.name==nm))/\Below w.heap.size w w':=by
 have I:=Hk (QoO b c n l nm C w H h J E y);clear h y;go_enter Tryz.func89,Tryz.ntmps89;go_wp2_with (go_at_call 123;refine I.out.mono ?_;rintro e K ⟨r,rfl,F,D⟩);go_ret;exact⟨ret_bool F.2.2,D⟩
def Qhf (f:Flw):Prop:=(∀j∈f.jobs,∀n∈j.ins,n∈Qaw f)/\(∀o∈f.outs,o.from_∈Qaw f)/\(f.outs.map (·.name)).Nodup
def QrT (ok:Prop) (w:World) (e:Ending) (w':World):Prop:=Below w.heap.size w w'/\((ok/\e=.returned .nilIface)\/(¬ok/\∃ev n,e=.returned ev/\n≠0/\AtV w' ev n/\ev≠.nilIface))
theorem QoQ {f:Flw} {q:Nat} (h:q<f.jobs.length) {P:FJob->Prop} (E:∀j∈f.jobs.take q,P j) (D:P f.jobs[q]):∀j∈f.jobs.take (q+1),P j:=by
 rw[List.take_succ_eq_append_getElem h];intro j y;rcases List.mem_append.1 y with y|y
 ·exact E j y
 ·rw[List.mem_singleton.1 y];exact D
theorem Qhg {α:Type} {l:List α} {q:Nat} (h:q<l.length) {P:α->Prop} (E:∀j∈l.take q,P j) (D:P l[q]):∀j∈l.take (q+1),P j:=by
 rw[List.take_succ_eq_append_getElem h];intro j y;rcases List.mem_append.1 y with y|y
 ·exact E j y
 ·rw[List.mem_singleton.1 y];exact D
theorem Qla (f:Flw) (vi vj vo mv:Value) (w:World) (h:Fw.FlowRd w f vi vj vo) (hf:Fw.FlwOK f) (hm:Fw.StrsR w mv (Qaw f)):
 Calls Tryz.prog 53 #[.agg #[vi,vj,vo],mv] w fun e w'=>QrT (Qhf f) w e w':=by
 obtain⟨ja,jc,rfl⟩:=row_slice h.jobs;obtain⟨oa,oc,rfl⟩:=row_slice h.outs;obtain⟨J,hJ⟩:∃J,f.jobs.length=J:=⟨_,rfl⟩;obtain⟨O,hO⟩:∃O,f.outs.length=O:=⟨_,rfl⟩;have b7:J<=16:=by rw[<-hJ];exact hf.jl
 have ca:O<=16:=by rw[<-hO];exact hf.ol
 rw[hJ,hO] at h⊢;obtain⟨w1,a0⟩:∃x,w.alloc (.cells #[vi,.slice ja J jc,.slice oa O oc] 29)=x:=⟨_,rfl⟩;have ax:Below w.heap.size w w1:=by rw[<-a0];exact Qaa _ _
 have aN:Qcx w1 w.heap.size vi (.slice ja J jc) (.slice oa O oc):=by rw[<-a0];exact Qcx.new _ _ _ _ _
 have U:=Hk ax;have a2:=Hk aN;have HH:=Hk (Ai (h.below ax) hf);have HJ:=Hk hJ;have HO:=Hk hO;have g1:=aN.2.1;have HC:Hid (∀V,Below w1.heap.size w1 V->∀x,Calls Tryz.prog 37 #[mv,.string (ba x)] V fun e w'=>e=.returned (.bool ((Qaw f).contains x))/\w'=V):=Hk fun V hV x=>Qhb ((hm.below ax).below hV) (by have:=Qhd hf;omega) x
 obtain⟨ma,mc,rfl⟩:=strs_slice hm;have aI:Hid (∀(n:Int) (pl:Int) V,Calls Tryz.prog 51 #[.int .i64 n,.int .i64 pl] V fun e w'=>∃p,e=.returned (.iface 100 (.pointer (some ⟨p,0,none⟩)))/\AtV w' (.iface 100 (.pointer (some ⟨p,0,none⟩))) n/\Below V.heap.size V w'):=Hk fun n pl V=>Qih n pl V
 have ci:=mkF;clear h hf hJ hO ax aN hm;go_enter Tryz.func53,Tryz.ntmps53;go_wp2;go_loopw [14] (fun i wr=>∃q:Nat,q<=J/\i=.int .i64 q/\(∀j∈f.jobs.take q,∀n∈j.ins,n∈Qaw f)/\Below w1.heap.size w1 wr) (fun i _=>J-(intOf i).toNat)
 case atStart=>exact⟨0,Nat.zero_le _,rfl,by simp,Below.refl _ _⟩
 case round=>
  obtain⟨q,hq,rfl,aq,E⟩:=hrel;obtain⟨wb,a3⟩:∃x,x=wr:=⟨_,rfl⟩;rw[<-a3] at E⊢;clear a3;have HA:=Hk aq;have a9:=Hk E;clear aq
  by_cases hlt:q<J
  ·have az:q<f.jobs.length:=by rw[HJ.out];exact hlt
   obtain⟨b,c,Z,bj,hb,ao,ai,ac,aP,ho,aB,a7⟩:=Qf2 HH.out.1 az;have aF:wb.rangeAt b (q*15) (Fw.jobV f.jobs[q] ao ai ac):=fun j u hj=>(E.cell (p:=⟨b,q*15+j,none⟩) hb).trans (aP j u hj)
   clear aP;simp only[Value.slice.injEq] at Z;obtain⟨rfl,-,rfl⟩:=Z;have aj:=Qdz ho aB a7;have bi:=(HH.out.2.jobs _ (List.getElem_mem az)).il;have HI:=Hk aB;obtain⟨na,nc,rfl⟩:=strs_slice aB;obtain⟨JL,ap⟩:∃JL,Fw.jobV f.jobs[q] ao (.slice na f.jobs[q].ins.length nc) ac=JL:=⟨_,rfl⟩;have aR:JL[3]? =some (.slice na f.jobs[q].ins.length nc):=by rw[<-ap];rfl
   have aZ:JL[0]? =some (.int .i64 (f.jobs[q].at_:Nat)):=by rw[<-ap];rfl
   have bJ:JL.length=15:=by rw[<-ap];rfl
   rw[ap] at aF aj;have bf:Hid (∀ins,f.jobs[q].ins=ins->(∀n∈ins,n∈Qaw f)->∀j∈f.jobs.take (q+1),∀n∈j.ins,n∈Qaw f):=Hk (fun ins F hall=>QoQ az HA.out (by rw[F];exact hall));have aX:Hid (∀ins x,f.jobs[q].ins=ins->x∈ins->x∉Qaw f->¬Qhf f):=Hk (fun ins x F hx hno hR=>hno (hR.1 _ (List.getElem_mem az) x (by rw[F];exact hx)));obtain⟨ins,F⟩:∃ins,f.jobs[q].ins=ins:=⟨_,rfl⟩;generalize f.jobs[q].at_=pl at*;obtain⟨w3,bb,H,aG,ce,aL,bg⟩:=Qhe wb JL bJ aj;have bZ:=Hk aF;have bz:=Hk aj;have be:=Hk aL;have bW:=Hk bg;have bO:=Hk bb;have bN:=Hk aG;have aa:=Hk H;have a5:=aG.cell 3 aR;simp only[F] at a5 bi HI aR;have bA:=Hk aZ;have bo:=Hk (bf.out ins F);have bk:=Hk (fun x=>aX.out ins x F);clear aF aj aL bg bb aG H ho aB a7 ap aR aZ F bf aX E;go_wp2_with (first|(refine wpList_load_mid rfl 50 (.tmp 16) rfl b (q*15) rfl JL _ bZ.out Tryz.underlying50 rfl be.out ?_)|(refine wpList_store_mid rfl 50 (.tmp 6) (.tmp 17) rfl wb.heap.size 0 JL.toArray rfl rfl bW.out be.out bz.out ?_;rw[show JL.toArray.toList=JL from rfl,<-bO.out]));obtain⟨n,hn⟩:∃n,ins.length=n:=⟨_,rfl⟩;have HN:=Hk hn;rw[hn] at bi HI a5⊢;clear hn;go_loopw [21] (fun i wr=>∃r:Nat,r<=n/\i=.int .i64 r/\(∀x∈ins.take r,x∈Qaw f)/\Below w3.heap.size w3 wr) (fun i _=>n-(intOf i).toNat)
   case atStart=>exact⟨0,Nat.zero_le _,rfl,by simp,Below.refl _ _⟩
   case round=>
    obtain⟨r,hr,rfl,aM,M⟩:=hrel;have a6:=Hk aM;have af:=Hk (bel_then (bel_then a9.out aa.out) M);have bR:=Hk (bN.out.below M);clear aM
    by_cases hlt3:r<n
    ·have D:r<ins.length:=by have:=HN.out;omega
     rcases HI.out with ⟨-,Z⟩|⟨nb,no,cg,Z,b3,bL,ay⟩
     ·rw[Z] at D;exact absurd D (by simp)
     simp only[Value.slice.injEq] at Z;obtain⟨rfl,-,rfl⟩:=Z;have d1:=(af.out.cell (p:=⟨nb,no+r,none⟩) bL).trans (ay r D);obtain⟨x,hx⟩:∃x,ins[r]=x:=⟨_,rfl⟩;have bS:Hid (x∈ins):=Hk (by rw[<-hx];exact List.getElem_mem D);have bv:Hid (x∈Qaw f->∀y∈ins.take (r+1),y∈Qaw f):=Hk (fun hxm=>Qhg D a6.out (by rw[hx];exact hxm));rw[hx] at d1;have I:=Hk (HC.out wr af.out x);obtain⟨bx,a4⟩:∃bx,ba x=bx:=⟨_,rfl⟩;rw[a4] at I d1;have dA:=bR.out.cell 0 bA.out;clear hx a4 ay
     cases hcx:(Qaw f).contains x with
     |true=>
      rw[hcx] at I;have bY:Hid (∀y∈ins.take (r+1),y∈Qaw f):=Hk (bv.out (by simpa using hcx));have br:=Hk M;clear hcx M;go_wp2_with (first|(go_at_call 37;refine I.out.mono ?_;rintro e2 w2 ⟨rfl,K⟩;obtain rfl:wr=w2:=K.symm;clear K));go_roundw
      case rel=>exact⟨r+1,by omega,by go_num,bY.out,br.out⟩
      case measure=>simp[intOf];omega
     |false=>
      rw[hcx] at I;have ar:Hid (¬Qhf f):=Hk (bk.out x bS.out (by simpa using hcx));clear hcx M;go_wp2_with (first|(go_at_call 37;refine I.out.mono ?_;rintro e2 w2 ⟨rfl,K⟩;obtain rfl:wr=w2:=K.symm;clear K)|(go_at_call 51;refine(aI.out _ _ _).mono ?_;rintro e3 w3 ⟨p,rfl,N,H⟩;have au:=Hk N;have aa:=Hk H;clear N H));go_ret;exact⟨U.out.trans ((bel_then af.out aa.out).mono U.out.size),Or.inr ⟨ar.out,_,7,rfl,by decide,au.out,by simp⟩⟩
    ·obtain rfl:r=n:=by omega
     have HF:=Hk (bo.out (by have:=a6.out;rwa[List.take_of_length_le (by have:=HN.out;omega)] at this));clear M;go_wp2;go_roundw
     case rel=>exact⟨q+1,by omega,by go_num,HF.out,af.out⟩
     case measure=>simp[intOf];omega
  ·obtain rfl:q=J:=by omega
   have bI:Hid (∀j∈f.jobs,∀n∈j.ins,n∈Qaw f):=Hk (by have:=HA.out;rwa[List.take_of_length_le (by have:=HJ.out;omega)] at this);have g2:=(a2.out.below E).2.2;clear E HA;go_wp2;go_loopw [37] (fun i wr=>∃q:Nat,q<=O/\i=.int .i64 q/\(∀o∈f.outs.take q,o.from_∈Qaw f)/\((f.outs.take q).map (·.name)).Nodup/\Below w1.heap.size w1 wr) (fun i _=>O-(intOf i).toNat)
   case atStart=>exact⟨0,Nat.zero_le _,rfl,by simp,by simp,a9.out⟩
   case round=>
    obtain⟨r,hr,rfl,aq,bh,E⟩:=hrel;have HA:=Hk (Ai aq bh);have af:=Hk E;clear aq bh
    by_cases hlt3:r<O
    ·have D:r<f.outs.length:=by rw[HO.out];exact hlt3
     rcases HH.out.1.outs with ⟨-,Z⟩|⟨b,c,Z,bj,hb,hx⟩
     ·rw[Z] at D;exact absurd D (by simp)
     simp only[Value.slice.injEq] at Z;obtain⟨rfl,-,rfl⟩:=Z;obtain⟨a,ha,aY,a8,bd⟩:=hx r D;obtain⟨_,av⟩:=List.getElem?_eq_some_iff.1 ha;have d0:=cK E hb aY;have d1:=cK E hb a8;have d2:=cK E hb bd;obtain⟨w4,am⟩:∃x,wr.alloc (.cells #[.int .i64 (a.at_:Nat),.string (ba a.name),.string (ba a.from_)] 60)=x:=⟨_,rfl⟩;have ah:Below w1.heap.size w1 w4:=by rw[<-am];exact bel_then E (Qaa _ _)
     have aO:=Hk ah;have I:=Hk (HC.out w4 ah a.from_);have bT:w4.cell? ⟨wr.heap.size,1,none⟩=some (.string (ba a.name)):=by rw[<-am];exact World.cell?_alloc_at _ _ _ _ rfl
     have b9:w4.cell? ⟨wr.heap.size,0,none⟩=some (.int .i64 (a.at_:Nat)):=by rw[<-am];exact World.cell?_alloc_at _ _ _ _ rfl
     have cd:w4.cell? ⟨wr.heap.size,2,none⟩=some (.string (ba a.from_)):=by rw[<-am];exact World.cell?_alloc_at _ _ _ _ rfl
     have ch:=ah.size;have aA:=Hk (QoP b oc r f.outs a.name wr.heap.size w4 (by omega) (fun j hj=>(hx j hj).below ah hb) (by omega) (by omega) bT);have g3:=(a2.out.below ah).2.2;have bF:Hid (a.from_∈Qaw f->((f.outs.take r).any fun i=>i.name==a.name)=false->(∀o∈f.outs.take (r+1),o.from_∈Qaw f)/\((f.outs.take (r+1)).map (·.name)).Nodup):=Hk (fun h1 K=>by
      refine⟨Qhg D HA.out.1 (by rw[av];exact h1),?_⟩;rw[List.take_succ_eq_append_getElem D,List.map_append,av];refine Qdy HA.out.2 (fun hm=>?_);obtain⟨o,ho,e⟩:=List.mem_map.1 hm;have:=List.any_eq_false.1 K o ho;rw[e] at this;simp at this)
     have bG:Hid (a.from_∉Qaw f->¬Qhf f):=Hk (fun h1 hR=>h1 (by rw[<-av];exact hR.2.1 _ (List.getElem_mem D)));have bH:Hid (((f.outs.take r).any fun i=>i.name==a.name)=true->¬Qhf f):=Hk (fun h1 hR=>by
      obtain⟨o,ho,e⟩:=List.any_eq_true.1 h1;have e2:f.outs.map (·.name)=(f.outs.take r).map (·.name)++a.name::(f.outs.drop (r+1)).map (·.name):=by
       conv=>lhs;rw[show f.outs=f.outs.take r++f.outs[r]::f.outs.drop (r+1) by rw[<-List.drop_eq_getElem_cons D,List.take_append_drop]]
       rw[List.map_append,List.map_cons,av]
      exact Qhc e2 (List.mem_map.2 ⟨o,ho,by simpa using e⟩) hR.2.2)
     have cf:(r:Int)<=(oc:Int):=by have:=HO.out;omega
     have cb:(0:Int)<=(r:Int):=by omega
     generalize ba a.name=nm at*;generalize ba a.from_=fr at*;clear E hx aY a8 bd ha av ah
     cases hcx:(Qaw f).contains a.from_ with
     |false=>
      rw[hcx] at I;have ar:Hid (¬Qhf f):=Hk (bG.out (by simpa using hcx));clear hcx;go_wp2_with (first|(go_at_call 37;refine I.out.mono ?_;rintro e2 w2 ⟨rfl,K⟩;obtain rfl:w4=w2:=K.symm;clear K)|(go_at_call 51;refine(aI.out _ _ _).mono ?_;rintro e3 w3 ⟨p,rfl,N,H⟩;have au:=Hk N;have aa:=Hk H;clear N H));go_ret;exact⟨U.out.trans ((bel_then aO.out aa.out).mono U.out.size),Or.inr ⟨ar.out,_,7,rfl,by decide,au.out,by simp⟩⟩
     |true=>
      rw[hcx] at I;have bu:Hid (a.from_∈Qaw f):=Hk (by simpa using hcx);clear hcx
      cases hny:(f.outs.take r).any fun i=>i.name==a.name with
      |true=>
       rw[hny] at aA;have ar:Hid (¬Qhf f):=Hk (bH.out hny);clear hny;go_wp2_with (first|(go_at_call 37;refine I.out.mono ?_;rintro e2 w2 ⟨rfl,K⟩;obtain rfl:w4=w2:=K.symm;clear K)|(go_at_call 89;refine aA.out.mono ?_;rintro e5 w5 ⟨rfl,ag⟩;have aQ:=Hk (bel_then aO.out ag);have q0:w5.cell? ⟨wr.heap.size,0,none⟩=some (.int .i64 (a.at_:Nat)):=cell_below (by rw[<-am];exact World.cell?_alloc_at _ _ _ _ rfl) ag;clear ag)|(go_at_call 51;refine(aI.out _ _ _).mono ?_;rintro e3 w3 ⟨p,rfl,N,H⟩;have au:=Hk N;have aa:=Hk H;clear N H));go_ret;exact⟨U.out.trans ((bel_then aQ.out aa.out).mono U.out.size),Or.inr ⟨ar.out,_,9,rfl,by decide,au.out,by simp⟩⟩
      |false=>
       rw[hny] at aA;have a1:=Hk (bF.out bu.out hny);clear hny;go_wp2_with (first|(go_at_call 37;refine I.out.mono ?_;rintro e2 w2 ⟨rfl,K⟩;obtain rfl:w4=w2:=K.symm;clear K)|(go_at_call 89;refine aA.out.mono ?_;rintro e5 w5 ⟨rfl,ag⟩;have aQ:=Hk (bel_then aO.out ag);clear ag));go_roundw
       case rel=>exact⟨r+1,by omega,by go_num,a1.out.1,a1.out.2,aQ.out⟩
       case measure=>simp[intOf];omega
    ·obtain rfl:r=O:=by omega
     have bM:Hid (Qhf f):=Hk (by
      have:=HA.out;rw[List.take_of_length_le (by have:=HO.out;omega)] at this;exact⟨bI.out,this.1,this.2⟩)
     go_wp2;go_ret;exact⟨U.out.trans (af.out.mono U.out.size),Or.inl ⟨bM.out,rfl⟩⟩
end Go.Proofs.YtjlgejennghhlaaGreatDoor.Pl
namespace Go.Proofs.YtjlgejennghhlaaGreatDoor.Pl
open Go.RowKit
open Fw (By FJob Flw ba Qcl QbK zeroJ)
theorem Qik {w:World} {v:Value} {l:List (By×Int)} (h:Fw.ColsR w v l) (K:∀x∈l,x.1.length<=1000):Qax w v (Qa0 l):=by
 have D:∀x∈Qa0 l,x.1.size<=maxLen:=by
  intro x M;obtain⟨y,H,rfl⟩:=List.mem_map.1 M;exact Nat.le_trans (K y H) (by decide)
 rcases h with ⟨rfl,rfl⟩|⟨b,o,c,rfl,F,J,I⟩
 ·exact⟨none,0,rfl,Nat.le_refl _,D,Or.inl rfl⟩
 ·refine⟨some ⟨b,o,none⟩,c,by simp[Qa0],by simpa [Qa0] using F,D,Or.inr ⟨b,o,rfl,J,fun j hj=>?_⟩⟩;have E:j<l.length:=by simpa [Qa0] using hj
  have:=I j E;simpa [Qa0] using this
theorem Qj7 (f:Flw):Fine f↔(∀i∈f.ins,Qaj (Qa0 i.cols)=true)/\(Qaw f).Nodup/\Qhf f:=
 ⟨fun h=>⟨h.cols,h.nodup,h.reads,h.outs,h.told⟩,fun⟨a,b,c,d,e⟩=>⟨a,b,c,d,e⟩⟩
theorem wrong_any (f:Flw) (vi vj vo:Value) (w:World) (h:Fw.FlowRd w f vi vj vo) (hf:Fw.FlwOK f):
 Calls Tryz.prog 19 #[.agg #[vi,vj,vo]] w fun e w'=>QrT (Fine f) w e w':=by
 obtain⟨ia,ic,rfl⟩:=row_slice h.ins;obtain⟨ja,jc,rfl⟩:=row_slice h.jobs;obtain⟨oa,oc,rfl⟩:=row_slice h.outs;obtain⟨I,hI⟩:∃I,f.ins.length=I:=⟨_,rfl⟩;have a4:I<=16:=by rw[<-hI];exact hf.il
 generalize f.jobs.length=J at*;generalize f.outs.length=O at*;rw[hI] at h⊢;obtain⟨w1,aw⟩:∃x,w.alloc (.cells #[.slice ia I ic,.slice ja J jc,.slice oa O oc] 29)=x:=⟨_,rfl⟩;have ah:Below w.heap.size w w1:=by rw[<-aw];exact Qaa _ _
 have ak:Qcx w1 w.heap.size (.slice ia I ic) (.slice ja J jc) (.slice oa O oc):=by rw[<-aw];exact Qcx.new _ _ _ _ _
 have y:=Hk ah;have ay:=Hk ak;have HH:=Hk (Ai (h.below ah) hf);have HI:=Hk hI;have g1:=ak.1;have aO:Hid (∀(n:Int) (Z:Int) V,Calls Tryz.prog 51 #[.int .i64 n,.int .i64 Z] V fun e w'=>∃p,e=.returned (.iface 100 (.pointer (some ⟨p,0,none⟩)))/\AtV w' (.iface 100 (.pointer (some ⟨p,0,none⟩))) n/\Below V.heap.size V w'):=Hk fun n Z V=>Qih n Z V
 clear h hf hI ah ak;go_enter Tryz.func19,Tryz.ntmps19;go_wp2;go_loopw [10] (fun i wr=>∃k:Nat,k<=I/\i=.int .i64 k/\(∀i∈f.ins.take k,Qaj (Qa0 i.cols)=true)/\Below w1.heap.size w1 wr) (fun i _=>I-(intOf i).toNat)
 case atStart=>exact⟨0,Nat.zero_le _,rfl,by simp,Below.refl _ _⟩
 case round=>
  obtain⟨k,hk,rfl,az,D⟩:=hrel;have HA:=Hk az;have HN:=Hk D;clear az
  by_cases hlt:k<I
  ·have ab:k<f.ins.length:=by rw[HI.out];exact hlt
   obtain⟨b,c,e0,a2,hb,v,d0,d1,d2,ap⟩:=Qng (HH.out.1.below D) ab;simp only[Value.slice.injEq] at e0;obtain⟨rfl,-,rfl⟩:=e0;have ao:=HH.out.2.ins _ (List.getElem_mem ab);have ac:Hid (∀V,Below wr.heap.size wr V->Calls Tryz.prog 30 #[v] V fun e w'=>e=.returned (.bool (Qaj (Qa0 f.ins[k].cols)))/\Below V.heap.size V w'):=Hk fun V hV=>Qb7 v _ V (Qik (ap.below hV) (fun x hx=>Nat.le_trans (ao.2.2 x hx).1 (by decide)))
   have aa:Hid (Qaj (Qa0 f.ins[k].cols)=true->∀i∈f.ins.take (k+1),Qaj (Qa0 i.cols)=true):=Hk (fun hy=>Qhg ab HA.out hy);have U:Hid (Qaj (Qa0 f.ins[k].cols)=false->¬Fine f):=Hk (fun hy hF=>by have:=hF.cols _ (List.getElem_mem ab);rw[hy] at this;cases this);obtain⟨ca,cc,rfl⟩:=QdS ap;clear ap;generalize f.ins[k].at_=Z at*;generalize ba f.ins[k].name=nm at*;clear D
   cases hr:Qaj (Qa0 f.ins[k].cols) with
   |true=>
    rw[hr] at ac;have HY:=Hk (aa.out hr);clear hr aa U ao;generalize f.ins[k].cols.length=cn at*;go_wp2_with (first|(go_at_call 30;refine(ac.out _ (Qaa _ _)).mono ?_;rintro e2 w2 ⟨rfl,E⟩;have aj:=Hk (bel_then HN.out (bel_then (Qaa _ _) E));clear E));go_roundw
    case rel=>exact⟨k+1,by omega,by go_num,HY.out,aj.out⟩
    case measure=>simp[intOf];omega
   |false=>
    rw[hr] at ac;have M:=Hk (U.out hr);clear hr aa U ao;generalize f.ins[k].cols.length=cn at*;go_wp2_with (first|(go_at_call 30;refine(ac.out _ (Qaa _ _)).mono ?_;rintro e2 w2 ⟨rfl,E⟩;have q0:w2.cell? ⟨wr.heap.size,0,none⟩=some (.int .i64 (Z:Nat)):=cell_below (World.cell?_alloc_at _ _ _ _ rfl) E;have aj:=Hk (bel_then HN.out (bel_then (Qaa _ _) E));clear E)|(go_at_call 51;refine(aO.out _ _ _).mono ?_;rintro e3 w3 ⟨p,rfl,aA,aC⟩;have aT:=Hk aA;have aV:=Hk aC;clear aA aC));go_ret;exact⟨y.out.trans ((bel_then aj.out aV.out).mono y.out.size),Or.inr ⟨M.out,_,3,rfl,by decide,aT.out,by simp⟩⟩
  ·obtain rfl:k=I:=by omega
   have aY:Hid (∀i∈f.ins,Qaj (Qa0 i.cols)=true):=Hk (by have:=HA.out;rwa[List.take_of_length_le (by have:=HI.out;omega)] at this);have H:=ay.out.below D;have g1:=H.1;have g2:=H.2.1;have g3:=H.2.2;have aW:=Hk (Qjd f _ _ _ wr (HH.out.1.below D) HH.out.2);clear D H HA;go_wp2_with (first|(go_at_call 52;fail));refine aW.out.mono ?_;rintro e4 w4 ⟨af,⟨K,ev,rfl,N⟩|⟨aD,mv,rfl,al⟩⟩
   ·have M:Hid (¬Fine f):=Hk (fun hF=>K hF.nodup);have ad:=Hk af;have aJ:=Hk N;obtain⟨p,Z,rfl,-,-⟩:=N;clear K af;go_wp2;go_ret;exact⟨y.out.trans ((bel_then HN.out ad.out).mono y.out.size),Or.inr ⟨M.out,_,9,rfl,by decide,aJ.out,by simp⟩⟩
   ·have aL:=Hk aD;have F:=bel_then HN.out af;have ad:=Hk F;have aH:=Hk (Qla f _ _ _ mv w4 (HH.out.1.below F) HH.out.2 (Fw.StrsR.of al));have H:=ay.out.below F;have g1:=H.1;have g2:=H.2.1;have g3:=H.2.2;obtain⟨ma,mc,rfl⟩:=own_slice (show w4.ownsRow _ _ _ _ _ _ from al);clear aD al af F H;go_wp2_with (first|(go_at_call 53;fail));refine aH.out.mono ?_;rintro e5 w5 ⟨ae,⟨ax,rfl⟩|⟨K,ev,n,rfl,aB,N,av⟩⟩
    ·have aU:Hid (Fine f):=Hk ((Qj7 f).2 ⟨aY.out,aL.out,ax⟩);have am:=Hk ae;clear ax ae;go_wp2;go_ret;exact⟨y.out.trans ((bel_then ad.out am.out).mono y.out.size),Or.inl ⟨aU.out,rfl⟩⟩
    ·have M:Hid (¬Fine f):=Hk (fun hF=>K ((Qj7 f).1 hF).2.2);have am:=Hk ae;have ai:=Hk (Ai N (Ai aB av));obtain⟨p,Z,rfl,-,-⟩:=N;clear K ae aB av;go_wp2;go_ret;exact⟨y.out.trans ((bel_then ad.out am.out).mono y.out.size),Or.inr ⟨M.out,_,n,rfl,ai.out.2.1,ai.out.1,ai.out.2.2⟩⟩
end Go.Proofs.YtjlgejennghhlaaGreatDoor.Pl
namespace Go.Proofs.YtjlgejennghhlaaGreatDoor.Pl
open Go.RowKit Go.Maps
open Fw (By FJob Flw ba Qcl QbK zeroJ)
abbrev AM:=List (By×Value)
def Qbv (A:AM) (n:By):Option Value:=(A.find? fun x=>x.1==n).map (·.2)
def Qlx (A:AM):Lit->Option Value
 |.string s=>Qbv A s
 |_=>none
abbrev keysA (A:AM):List By:=A.map (·.1)
theorem QcN {A:AM} {n:By} (h:n∉keysA A):Qbv A n=none:=by
 unfold Qbv;rw[List.find?_eq_none.2 (fun x hx=>by
  intro q;exact h (List.mem_map.2 ⟨x,hx,by simpa using q⟩))]
 rfl
theorem Qil {A:AM} {n:By} {v:Value} (h:n∉keysA A):Dk.putM (Qlx A) (.string n) v=Qlx (A++[(n,v)]):=by
 funext l
 by_cases e:l=.string n
 ·subst e;rw[Dk.putM_at]
  show some v=Qbv (A++[(n,v)]) n
  have y:=QcN h;unfold Qbv at y⊢;rw[List.find?_append]
  cases hf:A.find? fun x=>x.1==n with
  |none=>simp
  |some x=>rw[hf] at y;cases y
 ·rw[Dk.putM_off _ _ e]
  cases l with
  |string s=>
   have E:s≠n:=fun q=>e (by rw[q])
   show Qbv A s=Qbv (A++[(n,v)]) s
   unfold Qbv;rw[List.find?_append]
   cases hf:A.find? fun x=>x.1==s with
   |none=>
    have D:¬n=s:=fun q=>E q.symm
    simp[D]
   |some x=>rfl
  |_=>rfl
structure MapC (w:World) (b:Nat) (A:AM):Prop where
 is:∃D:DataW Value,w.ownsMap Tryz.prog 9 Dk.Rv b A.length D/\Dk.Sees D (Qlx A)/\Maps.size D=A.length
 nd:(keysA A).Nodup
theorem QbP:Keyed Tryz.prog 9:=string_keyed Tryz.underlying9
theorem MapC.mapIs {w:World} {b:Nat} {A:AM} (h:MapC w b A):Dk.MapIs w 9 b A.length (Qlx A):=by
 obtain⟨D,y,E,-⟩:=h.is;exact⟨D,y,E⟩
theorem MapC.made (w:World):MapC (w.alloc (.map #[] 0)) w.heap.size []:=⟨⟨.map [],World.ownsMap_made w _ _ Dk.Rv,⟨isMap_empty,fun kl=>by cases kl<;>exact⟨rfl,fun z=>rfl⟩⟩,rfl⟩,by simp⟩
theorem MapC.lt {w:World} {b:Nat} {A:AM} (h:MapC w b A):b<w.heap.size:=h.mapIs.lt
theorem MapC.block {w w':World} {b:Nat} {A:AM} (h:MapC w b A) (I:w'.heap[b]? =w.heap[b]?):MapC w' b A:=by
 obtain⟨⟨D,⟨es,c,F,y⟩,H⟩,E⟩:=h;exact⟨⟨D,⟨es,c,I.trans F,y⟩,H⟩,E⟩
theorem MapC.below {w w':World} {b:Nat} {A:AM} (h:MapC w b A) (y:Below w.heap.size w w'):MapC w' b A:=h.block (y.block b h.lt)
theorem MapC.obj {w:World} {b:Nat} {A:AM} (h:MapC w b A):∃es c,w.heap[b]? =some (.map es c):=by
 obtain⟨D,⟨es,c,y,-⟩,-⟩:=h.is;exact⟨es,c,y⟩
theorem MapC.put {w:World} {b:Nat} {A:AM} {n:By} (h:MapC w b A) (I:n∉keysA A) (J:A.length<1000000) (Z:n.length<=1000) (v:Value):
 ∃w',(Instr.mapUpdate 32 (.map (some b)) (.string (ba n)) v).run Tryz.prog w=.ok () w'/\MapC w' b (A++[(n,v)])/\w.grownBy w' (some b)/\w'.heap.size=w.heap.size:=by
 obtain⟨D,H,F,V⟩:=h.is;have y:keyOf Tryz.prog 9 (.string (ba n))=some (.string n):=Dk.str_key Tryz.underlying9 (ba n) (Nat.le_trans Z (by decide));obtain⟨O,E,-,N,M⟩:=(show Dk.MapIs w 9 b A.length (Qlx A) from⟨D,H,F⟩).put QbP Tryz.underlying32 (Nat.lt_of_lt_of_le J (by decide)) y v
 obtain⟨w',U,q2,q3⟩:=H.update (val:=v) QbP Tryz.underlying32 (Nat.lt_of_lt_of_le J (by decide)) y (show Dk.Rv v=some (.held v,[]) from rfl);have e:=(Result.ok.inj (E.symm.trans U)).2;subst e;refine⟨O,E,⟨⟨D.put (.string n) (.held v),?_,?_,?_⟩,?_⟩,N,M⟩
 ·rw[List.length_append];exact q2
 ·rw[<-Qil I];exact F.put (QbP.key y) v
 ·obtain⟨es,rfl,K,-⟩:=H.entries QbP;rw[size_put ⟨es,rfl,K⟩,List.length_append,List.length_singleton];have:has (DataW.map es) (.string n)=false:=by
   rw[(F.2 (.string n)).1]
   show(Qbv A n).isSome=false
   rw[QcN I];rfl
  rw[this,V];rfl
 ·rw[keysA,List.map_append];exact Qdy h.nd I
theorem MapC.look {w:World} {b:Nat} {A:AM} (h:MapC w b A) (n:By) (D:n.length<=1000) (c:Bool):
 (Instr.lookup 32 (.map (some b)) (.string (ba n)) c).run Tryz.prog w=.ok (if c then .tuple #[(Qbv A n).getD (.slice none 0 0),.bool (Qbv A n).isSome] else(Qbv A n).getD (.slice none 0 0)) w:=by
 have y:keyOf Tryz.prog 9 (.string (ba n))=some (.string n):=Dk.str_key Tryz.underlying9 (ba n) (Nat.le_trans D (by decide));exact h.mapIs.look QbP Tryz.underlying32 (z:=.slice none 0 0) (by kernel_rfl) y c
theorem MapC.len {w:World} {b:Nat} {A:AM} (h:MapC w b A) (y:TypeId):(Builtin.len_ #[32] y #[.map (some b)]).run Tryz.prog w=.ok (.int .i64 (A.length:Nat)) w:=by
 obtain⟨D,E,H,F⟩:=h.is;rw[<-F];exact E.len Tryz.underlying32 y
def QbM (w:World):AM->CM->Prop
 |[],[]=>True
 |a::A,c::m=>(a.1=c.1/\Qgc w a.2 c.2)/\QbM w A m
 |_,_=>False
theorem QbM.imp {w w':World} {A:AM} {m:CM} (h:QbM w A m) (y:∀c∈m,Qep c.2) (D:∀u cs,Qep cs->Qgc w u cs->Qgc w' u cs):QbM w' A m:=by
 induction A generalizing m with
 |nil=>cases m with
  |nil=>trivial
  |cons c m=>exact h.elim
 |cons a A ih=>cases m with
  |nil=>exact h.elim
  |cons c m=>exact⟨⟨h.1.1,D _ _ (y c (by simp)) h.1.2⟩,ih h.2 (fun x hx=>y x (by simp[hx]))⟩
theorem QbM.keys {w:World} {A:AM} {m:CM} (h:QbM w A m):keysA A=keysM m:=by
 induction A generalizing m with
 |nil=>cases m with
  |nil=>rfl
  |cons c m=>exact h.elim
 |cons a A ih=>cases m with
  |nil=>exact h.elim
  |cons c m=>simp only[keysA,keysM,List.map_cons];rw[h.1.1];congr 1;exact ih h.2
theorem QbM.snoc {w:World} {A:AM} {m:CM} {n:By} {u:Value} {cs:Cs} (h:QbM w A m) (y:Qgc w u cs):QbM w (A++[(n,u)]) (m++[(n,cs)]):=by
 induction A generalizing m with
 |nil=>cases m with
  |nil=>exact⟨⟨rfl,y⟩,trivial⟩
  |cons c m=>exact h.elim
 |cons a A ih=>cases m with
  |nil=>exact h.elim
  |cons c m=>exact⟨h.1,ih h.2⟩
theorem QbM.look {w:World} {A:AM} {m:CM} (h:QbM w A m) {n:By} (y:n∈keysM m):∃u cs,Qbv A n=some u/\QbH m n=some cs/\Qgc w u cs/\(n,cs)∈m:=by
 induction A generalizing m with
 |nil=>cases m with
  |nil=>cases y
  |cons c m=>exact h.elim
 |cons a A ih=>cases m with
  |nil=>exact h.elim
  |cons c m=>
   unfold Qbv QbH
   by_cases e:c.1=n
   ·refine⟨a.2,c.2,by simp[h.1.1,e],by simp[e],h.1.2,by rw[<-e];simp⟩
   ·obtain⟨u,cs,F,D,H,E⟩:=ih h.2 ((List.mem_cons.1 y).resolve_left (fun q=>e q.symm));refine⟨u,cs,?_,?_,H,by simp[E]⟩
    ·rw[List.find?_cons_of_neg (by simp[h.1.1,e])];exact F
    ·rw[List.find?_cons_of_neg (by simp[e])];exact D
theorem Qgc.put {w w':World} {u:Value} {cs:Cs} {b:Nat} (h:Qgc w u cs) (J:Qep cs) (N:∃es c,w.heap[b]? =some (.map es c)) (H:w.grownBy w' (some b)):Qgc w' u cs:=by
 obtain⟨k,o,c,M,K,F,D⟩:=h;have E:k≠b:=by
  rintro rfl;obtain⟨es,cl,I⟩:=N;have:=(D 0 J.1).1;simp[World.cell?,I] at this
 refine⟨k,o,c,M,K,Nat.lt_of_lt_of_le F H.size,fun j hj=>?_⟩;have y:=H.block k F (by intro e;injection e with e;exact E e);exact⟨(World.cell?_of_block y).trans (D j hj).1,(World.cell?_of_block y).trans (D j hj).2⟩
end Go.Proofs.YtjlgejennghhlaaGreatDoor.Pl
namespace Go.Proofs.YtjlgejennghhlaaGreatDoor.Pl.Ev
open Go.RowKit
open Fw (By FJob Flw ba)
abbrev TM:=List (By×Tb)
def QaP (m:TM) (n:By):Option Tb:=(m.find? fun x=>x.1==n).map (·.2)
abbrev keysT (m:TM):List By:=m.map (·.1)
def inT (m:TM) (j:FJob):List Tb:=j.ins.map fun n=>(QaP m n).getD ([],[])
theorem Qim (a b:TM) (n:By):QaP (a++b) n=(QaP a n).or (QaP b n):=by
 unfold QaP;rw[List.find?_append]
 cases a.find? fun x=>x.1==n<;>rfl
theorem QdA {m:TM} {n:By} (h:n∉keysT m):QaP m n=none:=by
 unfold QaP;rw[List.find?_eq_none.2 (fun x hx=>by
  intro q;exact h (List.mem_map.2 ⟨x,hx,by simpa using q⟩))]
 rfl
theorem QbT {m:TM} {n:By} (h:n∈keysT m):∃x∈m,x.1=n/\QaP m n=some x.2:=by
 unfold QaP
 cases hf:m.find? fun x=>x.1==n with
 |none=>
  obtain⟨x,y,e⟩:=List.mem_map.1 h;exact absurd (by simpa using e) (List.find?_eq_none.1 hf x y)
 |some x=>exact⟨x,List.mem_of_find?_eq_some hf,by simpa using List.find?_some hf,rfl⟩
theorem QcO {m r:TM} {n:By} (h:n∈keysT m):QaP (m++r) n=QaP m n:=by
 obtain⟨x,-,-,e⟩:=QbT h;rw[Qim,e];rfl
theorem QdT {m r:TM} {n:By} (h:n∉keysT m):QaP (m++r) n=QaP r n:=by
 rw[Qim,QdA h];rfl
theorem Qin {l:List By} {F:By->Tb} {n:By} (h:n∈l):QaP (l.map fun x=>(x,F x)) n=some (F n):=by
 obtain⟨x,E,H,D⟩:=QbT (m:=l.map fun x=>(x,F x)) (n:=n) (by simpa [keysT,Function.comp_def] using h);obtain⟨y,-,rfl⟩:=List.mem_map.1 E;rw[D];exact congrArg (fun z=>some (F z)) H
theorem Qio (l:List By) (F:By->Tb):keysT (l.map fun x=>(x,F x))=l:=by simp[keysT,Function.comp_def]
section
variable (E:FJob->List Tb->Int) (C:FJob->List Tb->By->Tb)
def runP:List FJob->TM->Option TM
 |[],m=>some m
 |j::r,m=>if E j (inT m j)=0 then runP r (m++j.outs.map fun n=>(n,C j (inT m j) n)) else none
def runN (f:Flw):List Nat->TM->Except (Int×Nat) TM
 |[],m=>.ok m
 |k::r,m=>match f.jobs[k]? with
  |none=>runN f r m
  |some j=>if E j (inT m j)=0 then runN f r (m++j.outs.map fun n=>(n,C j (inT m j) n)) else .error (E j (inT m j),k)
structure SolT (f:Flw) (I:TM) (M:By->Option Tb):Prop where
 ins:∀n∈keysT I,M n=QaP I n
 jobs:∀j∈f.jobs,E j (j.ins.map fun n=>(M n).getD ([],[]))=0/\∀n∈j.outs,M n=some (C j (j.ins.map fun n=>(M n).getD ([],[])) n)
end
section
variable {E:FJob->List Tb->Int} {C:FJob->List Tb->By->Tb}
theorem runN_P (f:Flw):∀(o:List Nat) (m:TM),runP E C (Qbh f o) m=(match runN E C f o m with |.ok m'=>some m'|.error _=>none)
 |[],m=>rfl
 |k::r,m=>by
  unfold Qbh runN;rw[List.filterMap_cons]
  cases hk:f.jobs[k]? with
  |none=>exact runN_P f r m
  |some j=>
   simp only;unfold runP
   by_cases he:E j (inT m j)=0
   ·rw[if_pos he,if_pos he];exact runN_P f r _
   ·rw[if_neg he,if_neg he]
theorem runP_keys:∀{p:List FJob} {m y:TM},runP E C p m=some y->∃r,y=m++r/\keysT r=p.flatMap (·.outs)
 |[],m,y,h=>⟨[],by simpa [runP] using h.symm,rfl⟩
 |j::r,m,y,h=>by
  unfold runP at h
  by_cases he:E j (inT m j)=0
  ·rw[if_pos he] at h;obtain⟨F,rfl,D⟩:=runP_keys h;refine⟨_,List.append_assoc _ _ _,?_⟩;rw[keysT,List.map_append,<-keysT,<-keysT,D,Qio];rfl
  ·rw[if_neg he] at h;cases h
theorem runP_at:∀{D:List FJob} {j:FJob} {F:List FJob} {m y:TM},runP E C (D++j::F) m=some y->∃m1,runP E C D m=some m1/\E j (inT m1 j)=0/\∃r,y=(m1++j.outs.map fun n=>(n,C j (inT m1 j) n))++r
 |[],j,F,m,y,h=>by
  rw[List.nil_append] at h;unfold runP at h
  by_cases he:E j (inT m j)=0
  ·rw[if_pos he] at h;obtain⟨H,I,-⟩:=runP_keys h;exact⟨m,rfl,he,H,I⟩
  ·rw[if_neg he] at h;cases h
 |a::D,j,F,m,y,h=>by
  rw[List.cons_append] at h;unfold runP at h⊢
  by_cases he:E a (inT m a)=0
  ·rw[if_pos he] at h⊢;exact runP_at h
  ·rw[if_neg he] at h;cases h
theorem runP_snoc:∀(p:List FJob) (j:FJob) (m:TM),runP E C (p++[j]) m=(runP E C p m).bind fun m1=>if E j (inT m1 j)=0 then some (m1++j.outs.map fun n=>(n,C j (inT m1 j) n)) else none
 |[],j,m=>by simp[runP]
 |a::p,j,m=>by
  rw[List.cons_append];unfold runP
  by_cases he:E a (inT m a)=0
  ·rw[if_pos he,if_pos he];exact runP_snoc p j _
  ·rw[if_neg he,if_neg he];rfl
theorem run_solT {f:Flw} {o:List Nat} {I m:TM} (hn:(Qaw f).Nodup) (V:Good f o) (hI:keysT I=f.ins.map (·.name)) (h:runP E C (Qbh f o) I=some m):SolT E C f I (QaP m)/\(keysT m).Perm (Qaw f):=by
 obtain⟨hj,O⟩:=V.jobs;obtain⟨r,hr,hk⟩:=runP_keys h;have F:(keysT m).Perm (Qaw f):=by
  rw[hr,keysT,List.map_append,<-keysT,<-keysT,hk,hI];exact List.Perm.append_left _ (V.perm_jobs.flatMap_right _)
 have H:(keysT m).Nodup:=F.nodup_iff.2 hn;refine⟨⟨fun n hi=>by rw[hr,QcO hi],fun j hjm=>?_⟩,F⟩;obtain⟨U,p2,hp⟩:=List.append_of_mem ((hj j).2 hjm);rw[hp] at h O;obtain⟨y,h1,h2,r2,M⟩:=runP_at h;obtain⟨r1,ac,N⟩:=runP_keys h1;have J:keysT y=f.ins.map (·.name)++U.flatMap (·.outs):=by
  rw[ac,keysT,List.map_append,<-keysT,<-keysT,N,hI]
 have Z:∀n∈j.ins,QaP m n=QaP y n:=by
  intro n D;have:n∈keysT y:=by
   rw[J,List.mem_append];exact(O U j p2 rfl n D).imp id (fun⟨j',a,b⟩=>List.mem_flatMap.2 ⟨j',a,b⟩)
  rw[M,List.append_assoc,QcO this]
 have K:(j.ins.map fun n=>(QaP m n).getD ([],[]))=inT y j:=List.map_congr_left (fun n D=>by rw[Z n D]);rw[K];refine⟨h2,fun n hno=>?_⟩;have ad:n∉keysT y:=by
  intro q;rw[M,List.append_assoc,keysT,List.map_append,List.map_append] at H;have hd:=(List.nodup_append.1 H).2.2;exact hd n q n (List.mem_append_left _ (by simpa [Function.comp_def] using hno)) rfl
 rw[M,List.append_assoc,QdT ad,QcO (by rw[Qio];exact hno),Qin hno]
theorem sol_runT {f:Flw} {o:List Nat} {I:TM} {M:By->Option Tb} (hI:keysT I=f.ins.map (·.name)) (hS:SolT E C f I M) (ho:Good f o):∃m,runP E C (Qbh f o) I=some m/\∀n∈keysT m,QaP m n=M n:=by
 obtain⟨hj,V⟩:=ho.jobs;have Z:∀(F y:List FJob),Qbh f o=y++F->∀h,runP E C y I=some h->(∀n∈keysT h,QaP h n=M n)->∃m,runP E C (y++F) I=some m/\∀n∈keysT m,QaP m n=M n:=by
  intro F
  induction F with
  |nil=>intro y _ h H D;exact⟨h,by simpa using H,D⟩
  |cons j F ih=>
   intro y O h H D;obtain⟨r1,ab,U⟩:=runP_keys H;have N:keysT h=f.ins.map (·.name)++y.flatMap (·.outs):=by
    rw[ab,keysT,List.map_append,<-keysT,<-keysT,U,hI]
   have J:inT h j=j.ins.map fun n=>(M n).getD ([],[]):=List.map_congr_left (fun n hnj=>by
    have:n∈keysT h:=by
     rw[N,List.mem_append];rw[O] at V;exact(V y j F rfl n hnj).imp id (fun⟨j',a,b⟩=>List.mem_flatMap.2 ⟨j',a,b⟩)
    rw[D n this])
   have aa:j∈f.jobs:=(hj j).1 (by rw[O];simp);obtain⟨q1,q2⟩:=hS.jobs j aa;have hs:runP E C (y++[j]) I=some (h++j.outs.map fun n=>(n,C j (inT h j) n)):=by
    rw[runP_snoc,H,Option.bind_some,if_pos (by rw[J];exact q1)]
   have:=ih (y++[j]) (by rw[O];simp) _ hs (fun n hn=>by
    by_cases hm:n∈keysT h
    ·rw[QcO hm];exact D n hm
    ·rw[QdT hm];have K:n∈j.outs:=by
      rw[keysT,List.map_append,List.mem_append] at hn;exact(hn.resolve_left hm)|>fun q=>by simpa [Function.comp_def] using q
     rw[Qin K,J,q2 n K])
   rw[List.append_assoc] at this;exact this
 obtain⟨m,H,D⟩:=Z (Qbh f o) [] rfl I rfl (fun n hn=>(hS.ins n hn).symm);exact⟨m,H,D⟩
theorem run_turn {f g:Flw} {o J:List Nat} {I m:TM} (hn:(Qaw f).Nodup) (V:Good f o) (D:Good g J) (H:g.ins=f.ins) (M:g.jobs.Perm f.jobs) (F:keysT I=f.ins.map (·.name)) (h:runN E C f o I=.ok m):∃K,runN E C g J I=.ok K/\∀n∈Qaw f,QaP K n=QaP m n:=by
 obtain⟨O,hk⟩:=run_solT hn V F (by rw[runN_P,h]);have hS':SolT E C g I (QaP m):=⟨O.ins,fun j hj=>O.jobs j (M.mem_iff.1 hj)⟩;obtain⟨K,y,Z⟩:=sol_runT (by rw[F,H]) hS' D;rw[runN_P] at y;obtain⟨r,hr,N⟩:=runP_keys (by rw[runN_P];exact y)
 cases hq:runN E C g J I with
 |error e=>rw[hq] at y;cases y
 |ok m2=>
  rw[hq] at y;obtain rfl:=Option.some.inj y;refine⟨m2,rfl,fun n hnm=>Z n ?_⟩;rw[hr,keysT,List.map_append,<-keysT,<-keysT,N,F];rw[<-H];have:(Qaw g).Perm (Qaw f):=Qel H M;have U:n∈Qaw g:=this.mem_iff.2 hnm;rcases List.mem_append.1 U with q|q
  ·exact List.mem_append_left _ q
  ·exact List.mem_append_right _ ((D.perm_jobs.flatMap_right _).mem_iff.2 q)
end
end Go.Proofs.YtjlgejennghhlaaGreatDoor.Pl.Ev
