import Derived.Deep.RegionHeld3
import Derived.Deep.DeepCutAuto
import Derived.Test.YtjlgejennghhlaaGreatDoorQ01
import Derived.Test.YtjlgejennghhlaaGreatDoorQ07
import Derived.Test.YtjlgejennghhlaaGreatDoorQ09
set_option linter.unusedSimpArgs false
set_option linter.unusedVariables false
set_option linter.unusedSectionVars false
set_option maxRecDepth 1000000
set_option maxHeartbeats 16000000
namespace Go.Proofs.YtjlgejennghhlaaGreatDoor
open Go.RowKit
theorem Qab.set {w:World} {B R o:Nat} {v:Value} {us:List Value} {rs:List (List Vl)} (h:Qab w B us rs) (y:R<B):Qab (w.setCell ⟨R,o,none⟩ v) B us rs:=
 ⟨h.1,fun j hj hj'=>⟨ownsRow_setCell_below (h.2 j hj hj').1 y _,(h.2 j hj hj').2⟩⟩
theorem QiG (tb y tk tcap:Nat) (vc vr:Value) (cs:List Cl) (rs:List (List Vl)) (j:Jb) (w:World) (ag:j.code=1\/j.code=9) (aS:0<tk) (ac:tb<w.heap.size) (t0:w.cell? ⟨tb,y,none⟩=some vc) (t1:w.cell? ⟨tb,y+1,none⟩=some vr)
 (hc:Qax w vc cs) (hr:QaG w vr rs) (h1:1<=cs.length) (h6:cs.length<=100) (hl:∀r∈rs,r.length=cs.length) (ah:rs.length<=100) (H:QdQ cs j.left) (ap:QdQ cs j.right):
 Calls Tryz.prog 102 #[.agg j.cells,.slice (some ⟨tb,y,none⟩) tk tcap] w fun e w'=>∃v1 v2 U K,e=.returned (.tuple #[v1,v2,.nilIface])/\w'.ownsRow w.heap.size 84 1 v1 (rs.filter (Qbm cs j)).length U/\Qab w' w.heap.size U (rs.filter (Qbm cs j))/\w'.ownsRow w.heap.size 84 1 v2 (rs.filter (fun r=> !Qbm cs j r)).length K/\Qab w' w.heap.size K (rs.filter (fun r=> !Qbm cs j r))/\Below w.heap.size w w':=by
 have aT:=mkF;have al:=Hk (fun W (hW:Below w.heap.size w W)=>Qa0 vr rs cs.length W (hr.below hW) hl h1 h6 ah);have ao:=Hk (fun v us B J W (hW:Below w.heap.size w W) hv hH hB hj M I=>Qkg v vc cs rs us j w.heap.size J B W hv hH hB hj M I (hc.below hW) h6 hl ah H ap);have htk':(0:Int)<(tk:Int):=by omega
 clear hl H ap;obtain⟨va,ak,rfl,-⟩:=hc;obtain⟨ra,az,rfl,-⟩:=hr;have am:QaC (w.alloc (.cells j.cells 50)) w.heap.size j:=fun k v hk=>by rw[World.cell?_alloc_at _ _ _ _ rfl];exact hk
 have F:=Hk am;clear am;unfold Jb.cells at F⊢;rcases ag with O|O
 all_goals
  rw[O] at F⊢;have aI:=Hk O;clear O;go_enter Tryz.func102,Tryz.ntmps102;go_wp2_with fail
  go_cut [7,8] (fun p v wx=>∃(J:Nat) (us:List Value),p=.pointer (some ⟨J,0,none⟩)/\wx.cell? ⟨J,0,none⟩=some (.slice va cs.length ak)/\J<wx.heap.size/\wx.ownsRow (w.heap.size+1) 84 1 v rs.length us/\Qab wx (w.heap.size+1) us rs/\QaC wx w.heap.size j/\Below w.heap.size w wx)
  case first=>
   go_region_held3 (fun w'=>w'.cell? ⟨tb,y,none⟩=some (.slice va cs.length ak)/\w'.cell? ⟨tb,y+1,none⟩=some (.slice ra rs.length az))
    (first|(go_keep;done)|exact⟨(World.cell?_setCell_other _ _ _ _ (by intro e;simp at e;try omega)).trans k0,(World.cell?_setCell_other _ _ _ _ (by intro e;simp at e;try omega)).trans k1⟩)
    (first|(go_at_call 137;refine(al.out _ (by first|exact(Qaa _ _).drew|exact(bel_box (Qaa _ _) _).drew)).mono ?_;rintro e V ⟨v1,us,rfl,H,aj,D⟩;have h:=bel_then (show Below w.heap.size w _ from(by first|exact(Qaa _ _).drew|exact(bel_box (Qaa _ _) _).drew)) D;have k0:=cK h ac t0;have k1:=cK h ac t1;have aU:tb<V.heap.size:=Nat.lt_of_lt_of_le ac h.size;(try(have kb:=(D.cell (p:=⟨w.heap.size+1,0,none⟩) (by simp)).trans (show _=some (Value.slice none 0 0) by simp);have kf:=(D.frozen (p:=⟨w.heap.size+1,0,none⟩) (by simp)).trans (show _=false by simp);have kz:w.heap.size+1<V.heap.size:=by(have:=D.size;simp at this;omega)))))
   all_goals go_wp2_with fail
   all_goals go_meet
   ·have Z:QaC V w.heap.size j:=fun k v hk=>(D.cell (p:=⟨w.heap.size,k,none⟩) (by simp)).trans (by simpa using F.out k v hk)
    exact⟨V.heap.size,us,rfl,by simp,by simp,(own_mono (by simp) H).alloc _,(aj.mono (by simp)).below (Qaa _ _),Z.below (Qaa _ _) (by have:=D.size;simp at this;omega),bel_box h _⟩
   ·have Z:QaC V w.heap.size j:=fun k v hk=>(D.cell (p:=⟨w.heap.size,k,none⟩) (by simp;omega)).trans (by simpa using F.out k v hk)
    exact⟨w.heap.size+1,us,rfl,World.cell?_setCell_same _ _ _ kb,by simpa using kz,own_mono (by simp) (ownsRow_setCell_below H (by simp) _),(Qab.set aj (by simp)).mono (by simp),fun k v hk=>(World.cell?_setCell_other _ _ _ _ (by intro e;simp at e)).trans (Z k v hk),h.setCell (by show w.heap.size<=w.heap.size+1;omega) _⟩
  case rest=>
   obtain⟨J,us,rfl,M,I,hv,hH,hJ,N⟩:=hcut;have ai:=N.size;have aG:=Hk (ao.out u8 us (w.heap.size+1) J wc N hv hH (by have:=hJ.lt;omega) hJ M I);have ay:=hJ 1 (.int .i64 j.code) rfl;rw[aI.out] at ay;have HB:=Hk N;obtain⟨xa,xc,rfl⟩:=own_slice hv;clear N hv hH hJ M ao al F t0 t1;go_wp2_with (go_at_call 138;refine aG.out.mono ?_;rintro e w5 ⟨v1,v2,U,K,rfl,o1,o2,o3,o4,aA⟩)
   go_ret3
   exact⟨_,_,U,K,rfl,own_mono ai o1,o2.mono (by omega),own_mono ai o3,o4.mono (by omega),bel_then HB.out aA⟩
theorem Tryz.infoTab:(Tryz.prog.info? 54).map (fun i=>(i.zero,i.size,i.bytes))=some (some (.agg #[.slice none 0 0,.slice none 0 0]),2,48):=by kernel_rfl
def QaE (w:World) (us:List Value) (css:List (List Cl)):Prop:=us.length=css.length/\∀(j:Nat) (h:j<css.length),∃u,us[j]? =some u/\Qax w u css[j]
theorem QaE.below {w w':World} {us:List Value} {css:List (List Cl)} (h:QaE w us css) (F:Below w.heap.size w w'):QaE w' us css:=
 ⟨h.1,fun j hj=>by obtain⟨u,y,D⟩:=h.2 j hj;exact⟨u,y,D.below F⟩⟩
theorem QaE.snoc {w:World} {us:List Value} {css:List (List Cl)} {u:Value} {cs:List Cl} (h:QaE w us css) (F:Qax w u cs):QaE w (us++[u]) (css++[cs]):=by
 refine⟨by simp[h.1],fun j hj=>?_⟩
 by_cases hlt:j<css.length
 ·obtain⟨x,D,H⟩:=h.2 j hlt;refine⟨x,?_,?_⟩
  ·rw[List.getElem?_append_left (by rw[h.1];exact hlt)];exact D
  ·rw[List.getElem_append_left hlt];exact H
 ·have y:j=css.length:=by rw[List.length_append] at hj;simp at hj;omega
  subst y;refine⟨u,by rw[<-h.1];simp,?_⟩;simp only[List.getElem_append_right (Nat.le_refl _),Nat.sub_self,List.getElem_cons_zero];exact F
theorem QhC (tb J tcap:Nat) (ts:List Tb) (j:Jb) (w:World) (V:QaX w tb J ts) (ac:tb<w.heap.size) (hl:ts.length<=100) (U:∃t∈ts,Qae t.1 t.2=false):
 Calls Tryz.prog 61 #[.agg j.cells,.slice (some ⟨tb,J,none⟩) ts.length tcap] w fun e w'=>e=.returned (.tuple #[.slice none 0 0,QbK 1])/\Below w.heap.size w w':=by
 obtain⟨i0,hi,af,aj,ak⟩:=info_parts Tryz.infoCols;have HB:=Hk U;have HT:=Hk V;clear U V;unfold Jb.cells;go_enter Tryz.func61,Tryz.ntmps61;go_wp2;go_loopw [6,16] (fun l i wr=>∃(k:Nat) (us:List Value),k<=ts.length/\i=.int .i64 k/\wr.ownsRow (w.heap.size+1) 51 1 l k us/\(∀q (h:q<ts.length),q<k->Qae ts[q].1 ts[q].2=true)/\Below w.heap.size w wr) (fun _ i _=>ts.length-(intOf i).toNat)
 case atStart=>exact⟨0,[],Nat.zero_le _,rfl,World.ownsRow_nil _ _ _ _,fun q _ h=>absurd h (by omega),Qaa _ _⟩
 case round=>
  obtain⟨k,us,hk,rfl,H,I,y⟩:=hrel;obtain⟨la,lc,rfl⟩:=own_slice H;have aH:=y.size;have HO:=Hk (Ai H (Ai I y))
  by_cases hlt:k<ts.length
  ·obtain⟨vc,vr,c0,c1,hc,hr⟩:=HT.out k hlt;have d0:=cK y ac c0;have d1:=cK y ac c1;have F:=fun W (hW:Below wr.heap.size wr W)=>right_any vc vr ts[k].1 ts[k].2 W ((hc.below y).below hW) ((hr.below y).below hW)
   obtain⟨ca,cc,rfl,-⟩:=hc;obtain⟨ra,rc,rfl,-⟩:=hr
   cases g:Qae ts[k].1 ts[k].2
   ·simp only[g] at F;have O:=Hk F;clear F c0 c1 H I y g;go_wp2_with (go_at_call 13;refine(O.out _ (Qaa _ _)).mono ?_;rintro e w1 ⟨rfl,D⟩)
    go_ret2
    exact⟨rfl,bel_then (bel_box HO.out.2.2 _) D⟩
   ·simp only[g] at F;have O:=Hk F;have HG:=Hk g;clear F c0 c1 H I y g;generalize ag:ts[k].1.length=n1 at*;generalize ap:ts[k].2.length=n2 at*;clear ag ap;go_wp2_with (first|(go_at_call 13;refine(O.out _ (Qaa _ _)).mono ?_;rintro e w1 ⟨rfl,D⟩;obtain⟨au,aq⟩:=QaP D;have aD:wr.heap.size<w1.heap.size:=by(have:=D.size;simp at this;omega))|(at_builtin;refine wpList_append_own _ rfl _ _ 123 rfl (w.heap.size+1) 51 i0 (.slice none 0 0) 1 24 Tryz.underlying123 hi af aj ak rfl (by decide) _ _ _ rfl ((owns_below (HO.out.1.alloc _) D).alloc _) ⟨w1.heap.size,0,none⟩ 1 1 [.slice ca n1 cc] rfl rfl (news1 _ _ _ _ rfl) (Qc2 _ _ _) ?c3 ?c4 ?c5 ?_))
    case c3=>unfold maxLen;omega
    case c4=>omega
    case c5=>have:=D.size;simp at this⊢;omega
    intro v' w5 K M _;obtain⟨p1,p2,p3⟩:=HO.out;have N:Below w.heap.size w w5:=((bel_then (bel_box p3 _) D).alloc (by omega) _).grown M (by simp;omega) (fun q Z=>by have:=(p1.lt q Z).1;omega);have HF:=Hk (Ai K N);clear K M N au aq p1 p2 p3;go_wp2;go_roundw
    case rel=>
     refine⟨k+1,_,by omega,by go_num,HF.out.1,fun q h Z=>?_,HF.out.2⟩;rcases Nat.lt_or_ge q k with ab|ab
     ·exact HO.out.2.1 q h ab
     ·obtain rfl:q=k:=by omega
      exact HG.out
    case measure=>simp[intOf];omega
  ·exfalso;obtain⟨t,V,hf⟩:=HB.out;obtain⟨q,Z,rfl⟩:=List.mem_iff_getElem.1 V;have:=I q Z (by omega);rw[this] at hf
   cases hf
end Go.Proofs.YtjlgejennghhlaaGreatDoor
namespace Go.Proofs.YtjlgejennghhlaaGreatDoor.Fw
open Go.RowKit
theorem Tryz.infoStr:(Tryz.prog.info? 9).map (fun i=>(i.zero,i.size,i.bytes))=some (some (.string ⟨#[]⟩),1,16):=by kernel_rfl
theorem info_parts {P:Program} {t:TypeId} {z:Value} {s b:Nat} (h:(P.info? t).map (fun i=>(i.zero,i.size,i.bytes))=some (some z,s,b)):∃i,P.info? t=some i/\i.zero=some z/\i.size=s/\i.bytes=b:=by
 cases hi:P.info? t with
 |none=>rw[hi] at h;simp at h
 |some i=>rw[hi] at h;simp at h;exact⟨i,rfl,h.1,h.2.1,h.2.2⟩
theorem news1 (w:World) (v:Value) (t:TypeId) (H:Nat) (y:w.heap.size=H):∀j u,[v][j]? =some u->(w.alloc (.cells #[v] t)).cell? ((⟨H,0,none⟩:Addr).add j)=some u:=by
 intro j u h
 match j,h with
 |0,h=>simp at h;subst h;subst y;simp[Addr.add]
theorem one1t (s:ByteArray):∀u∈[Value.string s],u.oneCell'=true:=by intro u h;simp at h;subst h;rfl
theorem own_slice {w:World} {B:Nat} {e:TypeId} {z:Nat} {v:Value} {n:Nat} {xs:List Value} (h:w.ownsRow B e z v n xs):∃a c,v=.slice a n c:=by
 obtain⟨-,⟨rfl,y⟩|⟨g,F,D,rfl,-⟩⟩:=h
 ·exact⟨none,0,by rw[y]⟩
 ·exact⟨_,_,rfl⟩
theorem own_mono {w:World} {base B:Nat} {e:TypeId} {size:Nat} {v:Value} {n:Nat} {xs:List Value} (I:B<=base) (h:w.ownsRow base e size v n xs):w.ownsRow B e size v n xs:=by
 obtain⟨D,h|⟨g,F,y,H,J,r⟩⟩:=h
 ·exact⟨D,Or.inl h⟩
 ·exact⟨D,Or.inr ⟨g,F,y,H,by omega,r⟩⟩
theorem Qal {w w':World} {R base:Nat} {e:TypeId} {size:Nat} {v:Value} {n:Nat} {xs:List Value} (h:w.ownsRow base e size v n xs) (y:But R w w') (D:R<base):w'.ownsRow base e size v n xs:=
 h.kept y (by
  cases hk:v.ownBlock with
  |none=>exact Or.inl rfl
  |some k=>
   have:=h.lt k hk;exact Or.inr (by intro e;injection e with e;omega))
theorem own_new1 (w:World) (B:Nat) (T:TypeId) (l:List Value) (z H:Nat) (h:l.length=z) (y:B<=w.heap.size) (D:H=w.heap.size):(w.alloc (.cells l.toArray T)).ownsRow B T z (.slice (some ⟨H,0,none⟩) 1 1) 1 l:=by
 subst D;refine⟨by omega,Or.inr ⟨w.heap.size,1,l.toArray,rfl,y,?_,Nat.le_refl _,by unfold maxLen;omega,by simp[h],by subst h;simp⟩⟩
 show(w.heap.push _)[w.heap.size]? =_
 simp
theorem But.grown {R:Nat} {w D F:World} {row:Option Nat} (h:But R w D) (y:D.grownBy F row) (H:∀k,row=some k->w.heap.size<=k):But R w F:=
 ⟨y.os.trans h.os,y.tape.trans h.tape,y.output.trans h.output,Nat.le_trans h.size y.size,fun i hi hne=>(y.block i (Nat.lt_of_lt_of_le hi h.size) (fun e=>by have:=H i e.symm;omega)).trans (h.block i hi hne)⟩
theorem RD.grown {w w':World} {R:Nat} {ts:List Tk} {row:Option Nat} (h:RD w R ts) (y:w.grownBy w' row) (K:∀k,row=some k->R<k):RD w' R ts:=by
 have I:=h.lt;have D:Below (R+1) w w':=⟨y.os,y.tape,y.output,y.size,fun k hk=>y.block k (by omega) (fun e=>by have:=K k e.symm;omega)⟩;obtain⟨b,o,c,M,J,F,H⟩:=h.cell;exact⟨⟨b,o,c,cK D (Nat.lt_succ_self R) M,J,F,fun j hj=>⟨(D.cell (p:=⟨b,o+j*3,none⟩) (Nat.lt_succ_of_lt F)).trans (H j hj).1,(D.cell (p:=⟨b,o+j*3+1,none⟩) (Nat.lt_succ_of_lt F)).trans (H j hj).2.1,(D.cell (p:=⟨b,o+j*3+2,none⟩) (Nat.lt_succ_of_lt F)).trans (H j hj).2.2⟩⟩,Nat.lt_of_lt_of_le I y.size,(D.frozen (p:=⟨R,0,none⟩) (Nat.lt_succ_self R)).trans h.fz,h.good,h.env.blocks y.size (fun g hg'=>D.block g (by have:=h.out g hg';omega)),h.out⟩
def Qck (l:List By):List Value:=l.map fun x=>.string (ba x)
def QbH (B:Nat):List By->Value->World->Prop:=fun l v w'=>w'.ownsRow B 9 1 v l.length (Qck l)
theorem QhZ {ts ts':List Tk} {a:By} (h:Qbd ts=.ok (a,ts')):ts'=ts.tail:=by
 unfold Qbd at h;split at h
 ·cases h
 ·split at h
  ·cases h
  ·simp only[Except.ok.injEq,Prod.mk.injEq] at h;exact h.2.symm
theorem Qes (R:Nat) (ts:List Tk) (w:World) (h:RD w R ts):Calls Tryz.prog 115 #[.pointer (some ⟨R,0,none⟩)] w fun e w'=>Rs (Qcp ts) (QbH w.heap.size) e w.heap.size w' R/\But R w w':=by
 obtain⟨i0,hi,aE,aF,aG⟩:=info_parts Tryz.infoStr;have hR:=h.lt;have H:=Hk h;clear h;go_enter Tryz.func115,Tryz.ntmps115;go_wp2_with (go_at_call 112;fail);refine(Qav R ts w H.out).mono ?_;rintro e w1 ⟨⟨a,ae,v,I,rfl,hv,K⟩|⟨er,I,ab⟩,ag⟩
 ·unfold encS at hv;subst hv;have aH:=ag.size;have a7:=K.good.len;have HN:=Hk (show Qcp ts=Qer ae.length [a] ae by rw[Qcp,I];rfl);have aq:=Hk (K.below (Qaa w1 (.cells #[.string (ba a)] 9)));have ar:=Hk (ag.box (.cells #[.string (ba a)] 9));have ai:=Hk (own_new1 w1 w.heap.size 9 (Qck [a]) 1 _ rfl aH rfl);clear I K ag;go_wp2_with fail;generalize ao:w1.alloc (.cells #[.string (ba a)] 9)=W1 at*;rw[show(Qck [a]).toArray=#[.string (ba a)] from rfl,ao] at ai;clear ao
  go_loopg [3] ae.length (fun g l wr=>∃(acc:List By) (ts':List Tk) (n:Nat),ts'.length<=g/\n+ts'.length<=2000/\wr.ownsRow w.heap.size 9 1 l n (Qck acc)/\Aside (n=acc.length/\RD wr R ts'/\But R w wr/\∃f,ts'.length<=f/\Qcp ts=Qer f acc ts'))
  case atStart=>exact⟨[a],ae,1,Nat.le_refl _,by omega,ai.out,rfl,aq.out,ar.out,_,Nat.le_refl _,HN.out⟩
  case round=>
   clear ai aq ar HN;obtain⟨acc,ts',n,hg,a6,aa,J⟩:=hrel;obtain⟨la,lc,rfl⟩:=own_slice aa;have HO:=Hk aa;clear aa
   by_cases hm:Qar ts'=[44]
   ·have HM:=Hk (Qcs [44] R ts' wr J.out.2.1 (by simp));rw[if_pos hm,show(Qar ts'==[44])=true by simp[hm]] at HM;obtain⟨f,U,V⟩:=J.out.2.2.2;obtain⟨t,r,y⟩:=J.out.2.1.good.ne;obtain⟨O,rfl⟩:∃O,f=O+1:=⟨f-1,by rw[y] at U;simp at U;omega⟩;have ap:=Hk (show Qcp ts=(Qbd ts'.tail).bind fun x=>Qer O (acc++[x.1]) x.2 by rw[V,Qer,if_pos hm]);have a4:ts'.tail.length+1=ts'.length:=by rw[y];simp
    have HF:=Hk (show ts'.length<=O+1 from U);clear hm U V y;go_wp2_with (go_at_call 114;fail);refine HM.out.mono ?_;rintro e w2 ⟨rfl,D,F⟩;have H2:=Hk D;have B2:=Hk (J.out.2.2.1.then F);have au:=Qal HO.out F hR;clear D F;go_wp2_with (go_at_call 112;fail);refine(Qav R ts'.tail w2 H2.out).mono ?_;rintro e w3 ⟨⟨M,ad,v,I,rfl,hv,K⟩|⟨er,I,ab⟩,Z⟩
    ·unfold encS at hv;subst hv;have a2:=(B2.out.then Z).size;have H3:=Hk (K.below (Qaa w3 (.cells #[.string (ba M)] 9)));have B3:=Hk ((B2.out.then Z).box (.cells #[.string (ba M)] 9));have O3:=Hk ((Qal au Z hR).alloc (.cells #[.string (ba M)] 9));have aM:=Hk (show Qcp ts=Qer O (acc++[M]) ad by rw[ap.out,I];rfl);have aO:=Hk (QhZ I);have h3:=H2.out.good.ne;clear I K Z au;go_wp2_with (at_builtin;refine wpList_append_own _ rfl _ _ 44 rfl w.heap.size 9 i0 (.string ⟨#[]⟩) 1 16 Tryz.underlying44 hi aE aF aG rfl (by decide) _ _ _ rfl O3.out ⟨w3.heap.size,0,none⟩ 1 1 [.string (ba M)] rfl rfl (news1 _ _ _ _ rfl) (one1t _) ?c3 ?c4 ?c5 ?_)
     case c3=>unfold maxLen;omega
     case c4=>omega
     case c5=>simp;omega
     intro v' w5 af N _;have ac:∀k,(Value.slice la n lc).ownBlock=some k->w.heap.size<=k:=fun k hk=>(O3.out.lt k hk).1
     have H5:=Hk (H3.out.grown N (fun k hk=>Nat.lt_of_lt_of_le hR (ac k hk)));have B5:=Hk (B3.out.grown N ac);have O5:=Hk (show w5.ownsRow w.heap.size 9 1 v' (n+1) (Qck (acc++[M])) by rw[show Qck (acc++[M])=Qck acc++[.string (ba M)] by simp[Qck]];exact af);have aV:ad.length+1=ts'.tail.length:=by
      rw[aO.out];obtain⟨t,r,y⟩:=h3;rw[y];simp
     clear af N ac h3;go_wp2
     go_roundg ad.length
     case measure=>omega
     case rel=>exact⟨acc++[M],ad,n+1,Nat.le_refl _,by omega,O5.out,by simp[J.out.1],H5.out,B5.out,O,by have:=HF.out;omega,aM.out⟩
    ·obtain⟨b',rfl,t0,t1,tB,tl⟩:=ab;have HP:=Hk (show Qcp ts=.error er by rw[ap.out,I];rfl);have a5:=B2.out.size;go_wp2;exact⟨rfl,Or.inr ⟨_,HP.out,b',rfl,t0,t1,by first|omega|(simp at tB;omega),tl⟩,B2.out.then Z⟩
   ·have HM:=Hk (Qcs [44] R ts' wr J.out.2.1 (by simp));rw[if_neg hm,show(Qar ts'==[44])=false by simp[hm]] at HM;obtain⟨f,U,V⟩:=J.out.2.2.2;obtain⟨t,r,y⟩:=J.out.2.1.good.ne;obtain⟨O,rfl⟩:∃O,f=O+1:=⟨f-1,by rw[y] at U;simp at U;omega⟩;have HP:=Hk (show Qcp ts=.ok (acc,ts') by rw[V,Qer,if_neg hm]);clear hm U V y;go_wp2_with (go_at_call 114;fail);refine HM.out.mono ?_;rintro e w2 ⟨rfl,D,F⟩;have HE:=Hk (Ai D (Ai (J.out.2.2.1.then F) (Qal HO.out F hR)));clear D F;go_wp2;go_ret;exact⟨Or.inl ⟨_,_,_,HP.out,rfl,by unfold QbH;rw[<-J.out.1];exact HE.out.2.2,HE.out.1⟩,HE.out.2.1⟩
 ·obtain⟨b',rfl,t0,t1,tB,tl⟩:=ab;have HP:=Hk (show Qcp ts=.error er by rw[Qcp,I];rfl);go_wp2;exact⟨rfl,Or.inr ⟨_,HP.out,b',rfl,t0,t1,by first|omega|(simp at tB;omega),tl⟩,ag⟩
end Go.Proofs.YtjlgejennghhlaaGreatDoor.Fw
