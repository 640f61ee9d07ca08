import Derived.Test.YtjlgejennghhlaaGreatDoorR01
import Derived.Test.YtjlgejennghhlaaGreatDoorR43
import Derived.Test.YtjlgejennghhlaaGreatDoorR46
set_option linter.unusedSimpArgs false
set_option linter.unusedVariables false
set_option linter.unusedSectionVars false
set_option maxRecDepth 1000000
set_option maxHeartbeats 16000000
namespace Go.Proofs.YtjlgejennghhlaaGreatDoor.Pl.Ev
open Go.RowKit Go.Maps
open Fw (By FJob Flw ba)
noncomputable def doN (j:FJob) (ts:List Tb) (n:By):Tb:=((doC j ts)[j.outs.idxOf n]?).getD ([],[])
def Qhh (u:Value):List Value:=match u with |.agg a=>a.toList|v=>[v]
def Qly (A:AM) (l:List By):List Value:=l.flatMap fun n=>Qhh ((Qbv A n).getD zeroT)
theorem Qnl {A:AM} {l:List By} {k:Nat} {y h:Value} (E:k<l.length) (D:Qbv A l[k]=some (.agg #[y,h])):Qly A (l.take k)++[y,h]=Qly A (l.take (k+1)):=by
 rw[List.take_succ_eq_append_getElem E,Qly,Qly,List.flatMap_append];simp[D,Qhh]
theorem Qnm {w:World} {A:AM} {m:TM} (E:QaV w A m):∀(l:List By),(∀n∈l,n∈keysT m)->(Qly A l).length=l.length*2/\∀i (h:i<l.length),∃y D,(Qly A l)[i*2]? =some y/\(Qly A l)[i*2+1]? =some D/\Qgi w (.agg #[y,D]) ((QaP m l[i]).getD ([],[]))
 |[],_=>⟨rfl,fun i h=>absurd h (by simp)⟩
 |n::r,hl=>by
  obtain⟨U,M⟩:=Qnm E r (fun x hx=>hl x (by simp[hx]));obtain⟨u,t,K,I,⟨y,D,rfl,O,Z⟩,-⟩:=E.look (hl n (by simp));have e:Qly A (n::r)=y::D::Qly A r:=by simp[Qly,K,Qhh]
  rw[e];refine⟨by simp[U];omega,fun i hi=>?_⟩
  cases i with
  |zero=>exact⟨y,D,rfl,rfl,y,D,rfl,by rw[List.getElem_cons_zero,I];exact O,by rw[List.getElem_cons_zero,I];exact Z⟩
  |succ i=>
   obtain⟨F,H,N,J,V⟩:=M i (by simpa using hi);refine⟨F,H,?_,?_,by simpa using V⟩
   ·rw[show(i+1)*2=i*2+1+1 by omega];simpa using N
   ·rw[show(i+1)*2+1=i*2+1+1+1 by omega];simpa using J
def Qf4 (w:World) (g:Nat) (ts:List Tb):Prop:=g<w.heap.size/\∀k (h:k<ts.length),∃vc vr,w.cell? ⟨g,k*2,none⟩=some vc/\w.cell? ⟨g,k*2+1,none⟩=some vr/\Qgi w (.agg #[vc,vr]) ts[k]
theorem Qf4.stay {w w':World} {g:Nat} {ts:List Tb} (h:Qf4 w g ts) (y:Stay w w'):Qf4 w' g ts:=⟨Nat.lt_of_lt_of_le h.1 y.size,fun k hk=>by
 obtain⟨D,H,F,E,I⟩:=h.2 k hk;exact⟨D,H,y.cell _ _ F,y.cell _ _ E,I.stay y⟩⟩
theorem Qf4.at {w:World} {g:Nat} {ts:List Tb} (h:Qf4 w g ts):QaZ w g 0 ts:=fun k hk=>by
 obtain⟨y,H,F,D,J,K,e,I,E⟩:=h.2 k hk;simp only[Value.agg.injEq,Array.mk.injEq,List.cons.injEq,and_true] at e;obtain⟨rfl,rfl⟩:=e;exact⟨y,H,by rw[Nat.zero_add];exact F,by rw[Nat.zero_add];exact D,I,E.is⟩
theorem Qf4.snd {w:World} {g:Nat} {ts:List Tb} (h:Qf4 w g ts):∀y,w.cell? ⟨g,3,none⟩=some y->∀t∈ts[1]?,Qch w y t.2:=by
 intro y E t I;obtain⟨H,rfl⟩:=List.getElem?_eq_some_iff.1 I;obtain⟨M,D,-,k2,K,J,e,-,F⟩:=h.2 1 H;simp only[Value.agg.injEq,Array.mk.injEq,List.cons.injEq,and_true] at e;obtain⟨rfl,rfl⟩:=e;have:y=D:=Option.some.inj (E.symm.trans k2);rw[this];exact F
theorem Qf4.new {w:World} {B g:Nat} {ts:List Tb} (J:g<w.heap.size) (h:QbR w B g ts):Qf4 w g ts:=⟨J,fun k hk=>by
 obtain⟨y,F,E,D,I,us,H,h5⟩:=h k hk;rw[Nat.zero_add] at E D;exact⟨y,F,E,D,y,F,rfl,I.is,rowsC_of H h5⟩⟩
theorem Qp5 {w:World} {B D:Nat} {H:Value} {A:AM} {m:TM} {l:List By} (h:w.ownsRow B 54 2 H D (Qly A l)) (hl:l.length=D) (U:0<D) (N:QaV w A m) (y:∀n∈l,n∈keysT m):∃g gc,H=.slice (some ⟨g,0,none⟩) D gc/\Qf4 w g (l.map fun n=>(QaP m n).getD ([],[])):=by
 have E:=h;obtain⟨-,⟨-,hn⟩|⟨g,I,Z,rfl,-,-,-,-,-,-⟩⟩:=h
 ·omega
 ·obtain⟨k1,k2⟩:=Qnm N l y;refine⟨g,I,rfl,(E.lt g rfl).2,fun i hi=>?_⟩;have F:i<l.length:=by simpa using hi
  obtain⟨J,O,K,V,M⟩:=k2 i F;exact⟨J,O,(E.cellAt (i*2) (by omega)).trans K,(E.cellAt (i*2+1) (by omega)).trans V,by rw[List.getElem_map];exact M⟩
def DoT (w1:World) (b:Nat) (m:TM) (j:FJob) (e:Ending) (w':World):Prop:=
 (doE j (inT m j)≠0/\e=.returned (QbN (doE j (inT m j)))/\Below w1.heap.size w1 w')\/
 (doE j (inT m j)=0/\e=.returned .nilIface/\∃A',TabS w1 w' b A' (m++j.outs.map fun n=>(n,doN j (inT m j) n)))
theorem news2 (w:World) (u v:Value) (t:TypeId) (H:Nat) (y:w.heap.size=H):∀j x,[u,v][j]? =some x->(w.alloc (.cells #[u,v] t)).cell? ((⟨H,0,none⟩:Addr).add j)=some x:=by
 intro j x h
 match j,h with
 |0,h=>simp at h;subst h;subst y;simp[Addr.add]
 |1,h=>simp at h;subst h;subst y;simp[Addr.add]
theorem Qrz (a D:Option Addr) (n c y E:Nat):∀u∈[Value.slice a n c,.slice D y E],u.oneCell'=true:=by intro u h;simp at h;rcases h with rfl|rfl<;>rfl
theorem QqP (j:FJob) (vo vi vc:Value) (m:TM) (A:AM) (b:Nat) (w1 w:World) (hj:Fw.JobOK j) (aA:Fw.StrsR w vo j.outs) (av:Fw.StrsR w vi j.ins) (aU:Fw.StrsR w vc j.cols) (hS:TabS w1 w b A m) (bp:w1.heap.size<=b)
 (aq:∀n∈j.ins,n∈keysT m) (al:∀x∈m,Qae x.2.1 x.2.2=true) (ax:Qbi j ((inT m j).map (·.1))=0) (aj:∀r (hr:r<j.outs.length),j.outs[r]∉keysT m++j.outs.take r) (aJ:m.length+j.outs.length<=16016) (a7:Env w):
 Calls Tryz.prog 25 #[.agg (Fw.jobV j vo vi vc).toArray,.map (some b)] w fun e w'=>DoT w1 b m j e w':=by
 obtain⟨i0,hi,bM,b7,bZ⟩:=info_parts Tryz.infoTab;obtain⟨U,V⟩:∃U,Fw.jobV j vo vi vc=U:=⟨_,rfl⟩;have aL:=Qdz aA av aU;obtain⟨oa,bu,rfl⟩:=Pl.strs_slice aA;obtain⟨na,nc,rfl⟩:=Pl.strs_slice av;have be:U[2]? =some (.slice oa j.outs.length bu):=by rw[<-V];rfl
 have bt:U[3]? =some (.slice na j.ins.length nc):=by rw[<-V];rfl
 obtain⟨w3,bm⟩:∃x,w.alloc (.cells U.toArray 50)=x:=⟨_,rfl⟩;have aa:Below w.heap.size w w3:=by rw[<-bm];exact Qaa _ _
 have aN:Fw.Box w3 w.heap.size U:=by rw[<-bm];exact Fw.Box.new w U _ _ rfl
 have aX:(Tryz.prog.info? 50).map (·.size)=some U.length:=by rw[show U.length=15 by rw[<-V];rfl];exact Fw.job_info
 have bU:=aN.cell 3 bt;have b0:=Hk V;have bV:=Hk aN;have bY:=Hk aX;have bQ:=Hk (hS.below aa);have bh:=Hk (aA.below aa);have bF:=Hk (av.below aa);have bG:=Hk (aU.below aa);have b9:=Hk (a7.below aa);have bN:=Hk be;have O:=Hk hj;have aQ:=Hk aq;have bW:=Hk al;have bo:=Hk ax;have bd:=Hk aj;have b6:=Hk aJ;have bP:=Hk bp;have cx:=Hk aL;have ce:Hid (0<j.ins.length):=Hk (by have:=(Qf1 hj).2;omega);obtain⟨ni,aB⟩:∃ni,j.ins.length=ni:=⟨_,rfl⟩;have ak:=Hk aB;have cH:ni<=1000:=by rw[<-aB];exact hj.il
 rw[aB] at bU;rw[V];clear V be bt aN aX aa hS aA av aU a7 hj aq al ax aj aJ bp aL aB;go_enter Tryz.func25,Tryz.ntmps25;go_wp2;go_loopw [5,15] (fun iv i wr=>∃r:Nat,r<=ni/\i=.int .i64 r/\wr.ownsRow w3.heap.size 54 2 iv r (Qly A (j.ins.take r))/\Below w3.heap.size w3 wr) (fun _ i _=>ni-(intOf i).toNat)
 case atStart=>exact⟨0,Nat.zero_le _,rfl,World.ownsRow_nil _ _ _ _,Below.refl _ _⟩
 case round=>
  obtain⟨r,hr,rfl,I,D⟩:=hrel;obtain⟨la,lc,rfl⟩:=own_slice I;have HX:=Hk (Ai I D);have cD:=D.size;have ab:=Hk (bQ.out.below D)
  by_cases hlt3:r<ni
  ·have M:r<j.ins.length:=by have:=ak.out;omega
   rcases bF.out with ⟨-,K⟩|⟨nb,no,cB,K,ci,bT,E⟩
   ·rw[K] at M;exact absurd M (by simp)
   simp only[Value.slice.injEq] at K;obtain⟨rfl,-,rfl⟩:=K;have d1:=(D.cell (p:=⟨nb,no+r,none⟩) bT).trans (E r M);obtain⟨u,t,aC,-,⟨bv,bn,rfl,aT,aH⟩,-⟩:=ab.out.mem.look (aQ.out _ (List.getElem_mem M));have aI:=Hk (Qnl M aC);obtain⟨x,hx⟩:∃x,j.ins[r]=x:=⟨_,rfl⟩;have aw:x∈j.ins:=by rw[<-hx];exact List.getElem_mem M
   rw[hx] at d1 aC;have ar:=Qdm ab.out.map x (O.out.is x aw) false;rw[aC] at ar;obtain⟨ca,cc,rfl,-⟩:=aT;obtain⟨ra,rc,rfl,-⟩:=aH;obtain⟨bx,ai⟩:∃bx,ba x=bx:=⟨_,rfl⟩;rw[ai] at d1 ar;simp only[Option.getD_some,Bool.false_eq_true,if_false] at ar;generalize t.1.length=cn at*;generalize t.2.length=rn at*;clear I D E hx ai aw aC;go_wp2_with (first|(at_builtin;refine wpList_append_own _ rfl _ _ 128 rfl w3.heap.size 54 i0 (.agg #[.slice none 0 0,.slice none 0 0]) 2 48 Tryz.underlying128 hi bM b7 bZ rfl (by decide) _ _ _ rfl (HX.out.1.alloc _) ⟨wr.heap.size,0,none⟩ 1 1 [.slice ca cn cc,.slice ra rn rc] rfl rfl (news2 _ _ _ _ _ rfl) (Qrz _ _ _ _ _ _) ?c3 ?c4 ?c5 ?_))
   case c3=>unfold maxLen;omega
   case c4=>omega
   case c5=>simp;omega
   intro v' w5 af ay _;have aO:Below w3.heap.size w3 w5:=(HX.out.2.alloc (by omega) _).grown ay (by simp;omega) (fun q hq=>(HX.out.1.lt q hq).1);rw[aI.out] at af;have HF:=Hk (Ai af aO);clear af ay aO ar;go_wp2;go_roundw
   case rel=>exact⟨r+1,by omega,by go_num,HF.out.1,HF.out.2⟩
   case measure=>simp[intOf];omega
  ·obtain rfl:r=ni:=by omega
   have aD:j.ins.take r=j.ins:=List.take_of_length_le (by have:=ak.out;omega);rw[aD] at I;obtain⟨g,gc,K,az⟩:=Qp5 I ak.out (by have:=ak.out;have:=ce.out;omega) ab.out.mem aQ.out;simp only[Value.slice.injEq,true_and] at K;obtain⟨rfl,rfl⟩:=K;have aM:∀t∈inT m j,Qae t.1 t.2=true:=by
    intro t ht;obtain⟨n,hn,rfl⟩:=List.mem_map.1 ht;obtain⟨u,t,-,h2,-,h4⟩:=ab.out.mem.look (aQ.out n hn);rw[h2];exact bW.out _ h4
   have au:(inT m j).length=j.ins.length:=by simp[inT]
   have bi:=Hk (QqH j (.slice oa j.outs.length bu) (.slice na j.ins.length nc) vc (inT m j) g lc wr O.out (bh.out.below D) (bG.out.below D) az.at az.1 az.snd au aM bo.out (b9.out.below D));have b4:Hid (doE j (inT m j)=0->(doC j (inT m j)).length=j.outs.length):=Hk fun h0=>(Qj9 O.out au aM bo.out h0).1
   rw[b0.out,au,ak.out] at bi;have aR:=bV.out.below D;have b3:=Hk aR.range;have b2:=Hk aR;clear I D aD az aM au aR;go_wp2_with (first|(refine wpList_load_mid rfl 50 (.tmp 2) rfl w.heap.size 0 rfl U _ b3.out Tryz.underlying50 rfl bY.out ?_)|(go_at_call 61;fail));refine bi.out.mono ?_;rintro e5 w5 ⟨ac,⟨hE,rfl⟩|⟨hE,g5,c5,rfl,cg,aW,a8⟩⟩
   ·have Z:=Hk hE;have b5:=Hk (bel_then ab.out.low ac);obtain⟨en,a0⟩:∃en,doE j (inT m j)=en:=⟨_,rfl⟩;have bf:=Hk a0;rw[a0] at Z⊢;have aK:QbN en=.iface 37 (.int .i64 en):=by unfold QbN;rw[if_neg Z.out]
    rw[aK];clear ac hE a0;go_wp2;refine bodyPost_ret (v:=.iface 37 (.int .i64 en)) (by simp[results,Tryz.results25,go_sem]) rfl ?_;exact Or.inl ⟨by rw[bf.out];exact Z.out,by rw[bf.out,aK],b5.out⟩
   ·have HE:=Hk hE;have aS:=b4.out hE;have a5:=Hk (Qf4.new aW a8);have bg:=Hk (ab.out.below ac);have bk:=b2.out.below ac;have bR:=bk.cell 2 bN.out;obtain⟨J,ae⟩:∃J,doC j (inT m j)=J:=⟨_,rfl⟩;rw[ae] at aS a5;have bH:Hid (∀r (hr:r<j.outs.length) (a6:r<J.length),doN j (inT m j) j.outs[r]=J[r]):=Hk fun r hr a6=>by
     have cb:∀q (hq:q<r),j.outs[q]'(by omega)≠j.outs[r]:=fun q hq e=>by
      have:=bd.out r hr;apply this;rw[<-e,List.mem_append];exact Or.inr (List.mem_iff_getElem.2 ⟨q,by rw[List.length_take];omega,by rw[List.getElem_take]⟩)
     have bE:j.outs.idxOf j.outs[r]=r:=by
      have h1:=List.idxOf_lt_length_iff.2 (List.getElem_mem hr);have h2:=List.getElem_idxOf h1;rcases Nat.lt_trichotomy (j.outs.idxOf j.outs[r]) r with h|h|h
      ·exact absurd h2 (cb _ h)
      ·exact h
      ·have:=List.not_of_lt_findIdx (p:=(·==j.outs[r])) (xs:=j.outs) h;simp at this
     unfold doN;rw[bE,ae,List.getElem?_eq_getElem a6,Option.getD_some]
    obtain⟨no,ag⟩:∃no,j.outs.length=no:=⟨_,rfl⟩;have Z:=Hk ag;have cA:no<=1000:=by rw[<-ag];exact O.out.ol
    rw[ag] at bR;have bj:=Hk (aS.trans ag);rw[ae,bj.out];have bw:=Hk (Stay.of (bel_then HX.out.2 ac));clear ac hE ae bk a8 aS aW cg ag;go_wp2;go_loopw [38] (fun i wy=>∃r:Nat,r<=no/\i=.int .i64 r/\∃A',TabS w1 wy b A' (m++(j.outs.take r).map fun n=>(n,doN j (inT m j) n))/\Stay w5 wy) (fun i _=>no-(intOf i).toNat)
    case atStart=>exact⟨0,Nat.zero_le _,rfl,A,by simpa using bg.out,Stay.refl _⟩
    case round=>
     clear bg;obtain⟨y,M,rfl,A',F,H⟩:=hrel;have cC:=Hk (Ai F H)
     by_cases hlt4:y<no
     ·have N:y<j.outs.length:=by have:=Z.out;omega
      have bq:y<J.length:=by have:=bj.out;omega
      rcases bh.out with ⟨-,K⟩|⟨tb,cG,cF,K,ch,cy,E⟩
      ·rw[K] at N;exact absurd N (by simp)
      simp only[Value.slice.injEq] at K;obtain⟨rfl,-,rfl⟩:=K;have d1:=H.cell _ _ (bw.out.cell _ _ (E y N));obtain⟨x,hx⟩:∃x,j.outs[y]=x:=⟨_,rfl⟩;have aw:x∈j.outs:=by rw[<-hx];exact List.getElem_mem N
      rw[hx] at d1;have ao:=a5.out.stay H;obtain⟨bv,bn,t0,t1,bs⟩:=ao.2 y bq;have cm:=ao.1;have br:x∉keysA A':=by
       rw[F.mem.keys,show keysT (m++(j.outs.take y).map fun n=>(n,doN j (inT m j) n))=keysT m++j.outs.take y by simp[keysT,Function.comp_def],<-hx];exact bd.out y N
      have bb:A'.length<1000000:=by
       rw[F.len,List.length_append,List.length_map,List.length_take];have:=b6.out;omega
      obtain⟨w7,bJ,a9,aV,b1⟩:=Qen F.map br bb (O.out.os x aw) (.agg #[bv,bn]);have aI:Hid (m++(j.outs.take (y+1)).map (fun n=>(n,doN j (inT m j) n))=(m++(j.outs.take y).map fun n=>(n,doN j (inT m j) n))++[(x,J[y])]):=Hk (by
       rw[List.take_succ_eq_append_getElem N,List.map_append,<-bH.out y N bq,hx,List.append_assoc];rfl)
      have HF:=Hk (Ai (F.put bP.out bs a9 aV) (H.trans (Stay.put F.map.obj aV)));obtain⟨cz,cE,e2,aT,aH⟩:=bs;simp only[Value.agg.injEq,Array.mk.injEq,List.cons.injEq,and_true] at e2;obtain⟨rfl,rfl⟩:=e2;obtain⟨ca,cc,rfl,-⟩:=aT;obtain⟨ra,rc,rfl,-⟩:=aH;obtain⟨bx,ai⟩:∃bx,ba x=bx:=⟨_,rfl⟩;rw[ai] at d1 bJ;have co:(y:Int)<(no:Int):=by omega
      generalize J[y].1.length=cn at*;generalize J[y].2.length=rn at*;clear F H E hx br bb a9 aV ai b1 ao;go_wp2;go_roundw
      case rel=>exact⟨y+1,by omega,by go_num,_,by rw[aI.out];exact HF.out.1,HF.out.2⟩
      case measure=>simp[intOf];omega
     ·obtain rfl:y=no:=by omega
      have HF:Hid (TabS w1 wr b A' (m++j.outs.map fun n=>(n,doN j (inT m j) n))):=Hk (by
       have:=F;rwa[List.take_of_length_le (by have:=Z.out;omega)] at this)
      clear F H;go_wp2;refine bodyPost_ret (v:=.nilIface) (by simp[results,Tryz.results25,go_sem]) rfl ?_;exact Or.inr ⟨HE.out,rfl,A',HF.out⟩
end Go.Proofs.YtjlgejennghhlaaGreatDoor.Pl.Ev
namespace Go.Proofs.YtjlgejennghhlaaGreatDoor.Pl.Ev
open Go.RowKit Go.Maps
open Fw (By FJob Flw ba)
theorem Qp6 (a D:Option Addr) (n y c E:Nat) (w:World) (h:n≠y):
 Calls Tryz.prog 14 #[.slice a n c,.slice D y E] w fun e w'=>e=.returned (.bool false)/\Below w.heap.size w w':=by
 have H:((n:Int) != (y:Int))=true:=by simp;omega
 have F:¬(n:Int)=(y:Int):=by omega
 go_enter Tryz.func14,Tryz.ntmps14;go_wp2;go_ret;exact⟨rfl,Below.refl _ _⟩
open Classical in
theorem Qnn (u v:Value) (cs h:List Cl) (w:World) (H:Qax w u cs) (E:Qax w v h) (M:cs.length<=60) (V:h.length<=60):
 Calls Tryz.prog 14 #[u,v] w fun e w'=>e=.returned (.bool (decide (cs=h)))/\Below w.heap.size w w':=by
 by_cases e:cs=h
 ·subst e;rw[decide_eq_true rfl];exact Qpd u v cs w H E M
 ·rw[decide_eq_false e];obtain⟨a,c,rfl,-,-,J⟩:=H;obtain⟨Z,K,rfl,-,-,F⟩:=E
  by_cases hl:cs.length=h.length
  ·rcases J with rfl|⟨b,o,rfl,O,I⟩
   ·exact absurd (List.length_eq_zero_iff.1 hl.symm).symm e
   ·rcases F with rfl|⟨N,U,rfl,D,y⟩
    ·exact absurd (List.length_eq_zero_iff.1 hl) e
    ·exact Qpg b o c N U K _ _ cs h w rfl rfl (by omega) (by omega) O D I y e
  ·exact Qp6 _ _ _ _ _ _ w hl
open Classical in
noncomputable def Qcr (G:By->Option Tb):List Fw.FIn->TM->Except Int TM
 |[],m=>.ok m
 |i::r,m=>match G i.name with
  |none=>.error 7
  |some t=>if t.1=Qa0 i.cols/\Qae t.1 t.2=true then Qcr G r (m++[(i.name,t)]) else .error 13
def Qr6 (f:Flw) (G:By->Option Tb) (w:World) (e:Ending) (w':World):Prop:=Below w.heap.size w w'/\
 ((∃n,Qcr G f.ins []=.error n/\n≠0/\e=.returned (.tuple #[.map none,.iface 37 (.int .i64 n)]))\/
  (∃I A b,Qcr G f.ins []=.ok I/\e=.returned (.tuple #[.map (some b),.nilIface])/\w.heap.size<=b/\MapC w' b A/\QaV w' A I))
theorem QeF {G:By->Option Tb}:∀{l:List Fw.FIn} {m I:TM},Qcr G l m=.ok I->∃r,I=m++r/\keysT r=l.map (·.name)/\(∀x∈r,G x.1=some x.2/\Qae x.2.1 x.2.2=true)/\r.map (·.2.1)=l.map (fun i=>Qa0 i.cols)
 |[],m,I,h=>by
  unfold Qcr at h;injection h with h;exact⟨[],by simp[h],rfl,by simp,rfl⟩
 |i::l,m,I,h=>by
  unfold Qcr at h
  cases hg:G i.name with
  |none=>rw[hg] at h;cases h
  |some t=>
   rw[hg] at h;simp only at h;split at h
   ·rename_i D
    obtain⟨r,E,J,F,H⟩:=QeF h;refine⟨(i.name,t)::r,by rw[E];simp,by simp only[keysT,List.map_cons];rw[<-keysT,J],fun x y=>?_,by simp only[List.map_cons];rw[H,D.1]⟩;rcases List.mem_cons.1 y with rfl|y
    ·exact⟨hg,D.2⟩
    ·exact F x y
   ·cases h
theorem QgM {G y:By->Option Tb}:∀(l:List Fw.FIn) (m:TM),(∀i∈l,G i.name=y i.name)->Qcr G l m=Qcr y l m
 |[],m,_=>rfl
 |i::l,m,h=>by
  unfold Qcr;rw[h i (by simp)]
  cases hg:y i.name with
  |none=>rfl
  |some t=>simp only;rw[QgM l _ (fun x hx=>h x (by simp[hx]))]
theorem Qdo {α:Type} {l:List α} {k:Nat} (h:k<l.length):l.drop k=l[k]::l.drop (k+1):=List.drop_eq_getElem_cons h
theorem Qlj (f:Flw) (vi vj vo mv:Value) (G:By->Option (Value×Tb)) (w:World) (h:Fw.FlowRd w f vi vj vo) (hf:Fw.FlwOK f) (hF:Fine f) (hG:GivM w mv G) (bd:∀n u t,G n=some (u,t)->t.1.length<=60):
 Calls Tryz.prog 24 #[.agg #[vi,vj,vo],mv] w fun e w'=>Qr6 f (fun n=>(G n).map (·.2)) w e w':=by
 obtain⟨ia,ic,rfl⟩:=row_slice h.ins;obtain⟨ja,jc,rfl⟩:=row_slice h.jobs;obtain⟨oa,oc,rfl⟩:=row_slice h.outs;obtain⟨I,hI⟩:∃I,f.ins.length=I:=⟨_,rfl⟩;have b0:I<=16:=by rw[<-hI];exact hf.il
 generalize f.jobs.length=J at*;generalize f.outs.length=O at*;rw[hI] at h⊢;obtain⟨w1,bb⟩:∃x,w.alloc (.cells #[.slice ia I ic,.slice ja J jc,.slice oa O oc] 29)=x:=⟨_,rfl⟩;have aH:Below w.heap.size w w1:=by rw[<-bb];exact Qaa _ _
 have bj:Qcx w1 w.heap.size (.slice ia I ic) (.slice ja J jc) (.slice oa O oc):=by rw[<-bb];exact Qcx.new _ _ _ _ _
 obtain⟨w2,bD⟩:∃x,w1.alloc (.map #[] 0)=x:=⟨_,rfl⟩;have a2:TabS w1 w2 w1.heap.size [] []:=by
  rw[<-bD];exact⟨Qaa _ _,MapC.made w1,trivial⟩
 obtain⟨N,aP⟩:∃N:By->Option Tb,(fun n=>(G n).map (·.2))=N:=⟨_,rfl⟩;rw[aP];have bM:Hid (∀n,N n=(G n).map (·.2)):=Hk fun n=>by rw[<-aP]
 have H:=Hk aH;have HH:=Hk (Ai (h.below aH) hf);have bk:=Hk hF;have HI:=Hk hI;have bL:=Hk a2;have HG:=Hk (hG.below aH);have bB:=Hk bd;have g1:=(bj.below a2.low).1;clear h hf hI aH bj hF hG bd a2 aP;have b2:∀V:World,(Instr.makeMap 22 none).run Tryz.prog V=.ok (.map (some V.heap.size)) (V.alloc (.map #[] 0)):=fun V=>by kernel_rfl
 go_enter Tryz.func24,Tryz.ntmps24;go_wp2;go_loopw [15] (fun i wr=>∃k:Nat,k<=I/\i=.int .i64 k/\∃A m,TabS w1 wr w1.heap.size A m/\Qcr N (f.ins.drop k) m=Qcr N f.ins []/\keysT m=(f.ins.take k).map (·.name)) (fun i _=>I-(intOf i).toNat)
 case atStart=>exact⟨0,Nat.zero_le _,rfl,[],[],bL.out,rfl,rfl⟩
 case round=>
  obtain⟨k,hk,rfl,A,m,hS,ad,E⟩:=hrel;have HS:=Hk hS;have bo:=Hk (Ai ad E)
  by_cases hlt:k<I
  ·have aj:k<f.ins.length:=by rw[HI.out];exact hlt
   obtain⟨b,c,e0,bX,hb,v,d0,d1,d2,aM⟩:=Qng (HH.out.1.below hS.low) aj;simp only[Value.slice.injEq] at e0;obtain⟨rfl,-,rfl⟩:=e0;have ay:=HH.out.2.ins _ (List.getElem_mem aj);have aD:=QeW (bk.out.cols _ (List.getElem_mem aj)) (fun x hx=>(ay.2.2 x hx).1);have aF:Qax wr v (Qa0 f.ins[k].cols):=Qik aM (fun x hx=>Nat.le_trans (ay.2.2 x hx).1 (by decide));obtain⟨va,aJ,rfl⟩:=QdS aM;have a4:f.ins[k].name∉keysA A:=by
    rw[hS.mem.keys,E];have bp:=bk.out.nodup;unfold Qaw at bp;have:=(List.nodup_append.1 bp).1;have e:f.ins.map (·.name)=(f.ins.take k).map (·.name)++f.ins[k].name::(f.ins.drop (k+1)).map (·.name):=by
     rw[<-List.map_cons (f:=fun(x:Fw.FIn)=>x.name),<-Qdo aj,<-List.map_append,List.take_append_drop]
    exact Qdn this e
   have aS:A.length<=16:=by
    rw[hS.len,show m.length=(keysT m).length by simp[keysT],E];simp;omega
   have aI:f.ins[k].name.length<=1000:=by have:=ay.1;omega
   have K:Hid (Qcr N (f.ins[k]::f.ins.drop (k+1)) m=Qcr N f.ins []):=Hk (by rw[<-Qdo aj];exact ad);have aQ:Hid ((f.ins.take (k+1)).map (·.name)=(f.ins.take k).map (·.name)++[f.ins[k].name]):=Hk (by rw[List.take_succ_eq_append_getElem aj,List.map_append];rfl);have aB:=Hk aD;obtain⟨w3,aw⟩:∃x,wr.alloc (.cells #[.int .i64 (f.ins[k].at_:Nat),.string (ba f.ins[k].name),.slice va f.ins[k].cols.length aJ] 57)=x:=⟨_,rfl⟩;have aK:Below wr.heap.size wr w3:=by rw[<-aw];exact Qaa _ _
   have aA:Fw.Box w3 wr.heap.size [.int .i64 (f.ins[k].at_:Nat),.string (ba f.ins[k].name),.slice va f.ins[k].cols.length aJ]:=by rw[<-aw];exact Fw.Box.new wr _ _ _ rfl
   have F:=(HG.out.look w3 (bel_then hS.low aK) _ aI true);have aG:Hid (Qax w3 (.slice va f.ins[k].cols.length aJ) (Qa0 f.ins[k].cols)):=Hk (aF.below aK);have bg:=Hk (hS.below aK);have a1:=Hk aA;have ab:=Hk (Ai a4 (Ai aS aI));have ag:=bM.out f.ins[k].name
   cases hgn:G f.ins[k].name with
   |none=>
    rw[hgn] at F ag;have bq:Hid (Qcr N f.ins []=.error 7):=Hk (by
     rw[<-K.out];unfold Qcr;rw[ag];rfl)
    simp only[Option.map_none,Option.getD_none,Option.isSome_none,if_true] at F;have k1:=aA.cell 1 (v:=.string (ba f.ins[k].name)) rfl;obtain⟨bx,al⟩:∃bx,ba f.ins[k].name=bx:=⟨_,rfl⟩;rw[al] at d1 F k1 aw;clear aM ay aD aF hS a4 aS aI aA ag hgn E ad al K aQ aB ab a1 aG;generalize f.ins[k].at_=pl at*;generalize f.ins[k].cols.length=cn at*;go_wp2;refine bodyPost_ret (v:=.tuple #[.map none,.iface 37 (.int .i64 7)]) (by simp[results,Tryz.results24,go_sem]) rfl ?_;exact⟨H.out.trans ((bel_then bg.out.low (Qaa _ _)).mono H.out.size),Or.inl ⟨7,bq.out,by decide,rfl⟩⟩
   |some ut=>
    obtain⟨u,t⟩:=ut;rw[hgn] at F ag;have bm:=bB.out _ u t hgn;have bn:=(HG.out.tab _ u t hgn).below (bel_then hS.low aK);have bv:=Hk bn;obtain⟨vc,vr,rfl,a0,a8⟩:=bn;simp only[Option.map_some,Option.getD_some,Option.isSome_some,if_true] at F;obtain⟨w4,au⟩:∃x,w3.alloc (.cells #[vc,vr] 54)=x:=⟨_,rfl⟩;have ah:Below w3.heap.size w3 w4:=by rw[<-au];exact Qaa _ _
    have aZ:Fw.Box w4 w3.heap.size [vc,vr]:=by rw[<-au];exact Fw.Box.new w3 _ _ _ rfl
    have ao:=Hk aZ;have aq:=Hk (a1.out.below ah);have aa:=Hk (fun V (M:Below w4.heap.size w4 V)=>Qnn vc _ t.1 (Qa0 f.ins[k].cols) V ((a0.below ah).below M) ((aG.out.below ah).below M) bm (by have:=aB.out.2.1;omega));have Z:=Hk (fun V (M:Below w4.heap.size w4 V)=>Go.Proofs.YtjlgejennghhlaaGreatDoor.right_any vc vr t.1 t.2 V ((a0.below ah).below M) ((a8.is.below ah).below M));have aW:=Hk (bv.out.below ah);have aL:=Hk (bg.out.below ah);have k1:=aA.cell 1 (v:=.string (ba f.ins[k].name)) rfl;have q0:=aZ.cell 0 (v:=vc) rfl;have k2:=aq.out.cell 2 (v:=.slice va f.ins[k].cols.length aJ) rfl;have am:Hid (t.1=Qa0 f.ins[k].cols->Qae t.1 t.2=true->Qcr N (f.ins.drop (k+1)) (m++[(f.ins[k].name,t)])=Qcr N f.ins []):=Hk (fun h1 h2=>by
     rw[<-K.out]
     conv=>rhs;unfold Qcr
     rw[ag];simp only[Option.map_some];rw[if_pos ⟨h1,h2⟩])
    have ak:Hid (¬(t.1=Qa0 f.ins[k].cols/\Qae t.1 t.2=true)->Qcr N f.ins []=.error 13):=Hk (fun h1=>by
     rw[<-K.out];unfold Qcr;rw[ag];simp only[Option.map_some];rw[if_neg h1])
    have be:=Hk au;obtain⟨ca,cc,rfl,-⟩:=a0;obtain⟨ra,rc,rfl,-⟩:=a8;obtain⟨nm,bf⟩:∃nm,f.ins[k].name=nm:=⟨_,rfl⟩;obtain⟨cs,bh⟩:∃cs,Qa0 f.ins[k].cols=cs:=⟨_,rfl⟩;rw[bf] at d1 F k1 aw ab aQ am aq;rw[bh] at aa am ak;obtain⟨bx,al⟩:∃bx,ba nm=bx:=⟨_,rfl⟩;rw[al] at d1 F k1 aw aq;have bR:=Hk al;clear aM ay aD aF hS a4 aS aI aA ag hgn E ad bf bh al K aB a1 aG aZ bm;generalize f.ins[k].at_=pl at*;generalize f.ins[k].cols.length=cn at*;obtain⟨tn,bE⟩:∃tn,t.1.length=tn:=⟨_,rfl⟩;obtain⟨tm,bS⟩:∃tm,t.2.length=tm:=⟨_,rfl⟩;rw[bE] at F q0 be ao aa Z aW au;rw[bS] at F be ao Z aW au
    by_cases hec:t.1=cs
    ·have ac:=fun V M=>by have:=aa.out V M;rw[decide_eq_true hec] at this;exact this
     cases hrb:Qae t.1 t.2 with
     |true=>
      have av:=fun V M=>by have:=Z.out V M;rw[hrb] at this;exact this
      have az:=Hk ac;have aX:=Hk av;have ae:=Hk (am.out hec hrb);clear ac av aa Z am ak hec hrb;go_wp2_with (first|(go_at_call 14;refine(az.out _ (Below.refl _ _)).mono ?_;rintro e w5 ⟨rfl,D⟩;have af:=Hk D;have y:=ao.out.below D;have q0:=y.cell 0 (v:=.slice ca tn cc) rfl;have q1:=y.cell 1 (v:=.slice ra tm rc) rfl;clear D y)|(go_at_call 13;refine(aX.out _ af.out).mono ?_;rintro e w6 ⟨rfl,ax⟩;have U:=Hk (bel_then af.out ax);clear ax;have k1:=(aq.out.below U.out).cell 1 (v:=.string bx) rfl;have aR:=ao.out.below U.out;have q0:=aR.cell 0 (v:=.slice ca tn cc) rfl;have q1:=aR.cell 1 (v:=.slice ra tm rc) rfl;obtain⟨w7,bI,a9,bi,-⟩:=Qen (aL.out.below U.out).map ab.out.1 (by have:=ab.out.2.1;omega) ab.out.2.2 (.agg #[.slice ca tn cc,.slice ra tm rc]);rw[bR.out] at bI;have HF:=Hk (TabS.put (n:=nm) (t:=t) (aL.out.below U.out) (Nat.le_refl _) (aW.out.below U.out) a9 bi);clear aR a9 bi));go_roundw
      case rel=>exact⟨k+1,by omega,by go_num,_,_,HF.out,ae.out,by rw[keysT,List.map_append,<-keysT,bo.out.2,aQ.out];rfl⟩
      case measure=>simp[intOf];omega
     |false=>
      have av:=fun V M=>by have:=Z.out V M;rw[hrb] at this;exact this
      have az:=Hk ac;have aX:=Hk av;have ae:=Hk (ak.out (by rw[hrb];simp));clear ac av aa Z am ak hec hrb;go_wp2_with (first|(go_at_call 14;refine(az.out _ (Below.refl _ _)).mono ?_;rintro e w5 ⟨rfl,D⟩;have af:=Hk D;have y:=ao.out.below D;have q0:=y.cell 0 (v:=.slice ca tn cc) rfl;have q1:=y.cell 1 (v:=.slice ra tm rc) rfl;clear D y)|(go_at_call 13;refine(aX.out _ af.out).mono ?_;rintro e w6 ⟨rfl,ax⟩;have U:=Hk (bel_then af.out ax);clear ax));refine bodyPost_ret (v:=.tuple #[.map none,.iface 37 (.int .i64 13)]) (by simp[results,Tryz.results24,go_sem]) rfl ?_;exact⟨H.out.trans ((bel_then aL.out.low U.out).mono H.out.size),Or.inl ⟨13,ae.out,by decide,rfl⟩⟩
    ·have ac:=fun V M=>by have:=aa.out V M;rw[decide_eq_false hec] at this;exact this
     have az:=Hk ac;have ae:=Hk (ak.out (fun q=>hec q.1));clear ac aa Z am ak hec;go_wp2_with (first|(go_at_call 14;refine(az.out _ (Below.refl _ _)).mono ?_;rintro e w5 ⟨rfl,D⟩;have af:=Hk D;have y:=ao.out.below D;have q0:=y.cell 0 (v:=.slice ca tn cc) rfl;have q1:=y.cell 1 (v:=.slice ra tm rc) rfl;clear D y));refine bodyPost_ret (v:=.tuple #[.map none,.iface 37 (.int .i64 13)]) (by simp[results,Tryz.results24,go_sem]) rfl ?_;exact⟨H.out.trans ((bel_then aL.out.low af.out).mono H.out.size),Or.inl ⟨13,ae.out,by decide,rfl⟩⟩
  ·obtain rfl:k=I:=by omega
   have bw:Hid (Qcr N f.ins []=.ok m):=Hk (by
    have:=bo.out.1;rw[List.drop_of_length_le (by rw[HI.out];exact Nat.le_refl _)] at this;exact this.symm)
   clear hS ad E;go_wp2;refine bodyPost_ret (v:=.tuple #[.map (some w1.heap.size),.nilIface]) (by simp[results,Tryz.results24,go_sem]) rfl ?_;exact⟨H.out.trans (HS.out.low.mono H.out.size),Or.inr ⟨m,A,_,bw.out,rfl,H.out.size,HS.out.map,HS.out.mem⟩⟩
end Go.Proofs.YtjlgejennghhlaaGreatDoor.Pl.Ev
