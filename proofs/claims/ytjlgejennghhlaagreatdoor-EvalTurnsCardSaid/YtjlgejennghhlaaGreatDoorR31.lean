import Derived.Deep.MidRow
import Derived.Test.YtjlgejennghhlaaGreatDoorProg
import Derived.WalkKit
import Derived.Maps.OwnOps
import Derived.Maps.Views
import Derived.Maps.RangeWalk
import Derived.Maps.Keyed
import Derived.Test.YtjlgejennghhlaaGreatDoorR01
import Derived.Test.YtjlgejennghhlaaGreatDoorR25
import Derived.Test.YtjlgejennghhlaaGreatDoorR26
import Derived.Test.YtjlgejennghhlaaGreatDoorR27
import Derived.Test.YtjlgejennghhlaaGreatDoorR30
import Derived.Test.YtjlgejennghhlaaGreatDoorR20
set_option linter.unusedSimpArgs false
set_option linter.unusedVariables false
set_option linter.unusedSectionVars false
set_option maxRecDepth 1000000
set_option maxHeartbeats 16000000
namespace Go.Proofs.YtjlgejennghhlaaGreatDoor.Fw
open Go.RowKit
theorem Qh6 (at_:Nat) (outs:List By) (retry:Int) (E:Value) (K R:Nat) (ts:List Tk) (w:World) (h:RD w R ts) (F:Box w K [.int .i64 (at_:Nat),.int .i64 0,E,.slice none 0 0,.slice none 0 0,.string ⟨#[]⟩,.string ⟨#[]⟩,.int .i64 0,.int .i64 0,.string ⟨#[]⟩,.string ⟨#[]⟩,.int .i64 0,.int .i64 0,.string ⟨#[]⟩,.int .i64 retry]) (D:R<K):
 Calls Tryz.prog 117 #[.pointer (some ⟨R,0,none⟩),.pointer (some ⟨K,0,none⟩)] w fun e w'=>Qgh (Qca at_ outs retry ts) E K e w.heap.size w' R/\But2 R K w w':=by
 cases hc:Qci ts with
 |error e=>exact QjQ at_ outs retry E K R ts w h F D (fun c t h'=>by rw[hc] at h';cases h')
 |ok x=>
  obtain⟨c,t⟩:=x;have y:∀c' t',Qci ts=.ok (c',t')->c'=c:=fun c' t' h'=>by rw[hc] at h';simp only[Except.ok.injEq,Prod.mk.injEq] at h';exact h'.1.symm
  rcases QgG hc with rfl|rfl|rfl|rfl|rfl|rfl|rfl|rfl|rfl
  ·exact Qok at_ outs retry E K R ts w h F D y
  ·exact Qom at_ outs retry E K R ts w h F D y
  ·exact Qon at_ outs retry E K R ts w h F D y
  ·exact Qoo at_ outs retry E K R ts w h F D y
  ·exact Qop at_ outs retry E K R ts w h F D y
  ·exact QjQ at_ outs retry E K R ts w h F D y
  ·exact Qor at_ outs retry E K R ts w h F D y
  ·exact Qoq at_ outs retry E K R ts w h F D y
  ·exact Qol at_ outs retry E K R ts w h F D y
def Qr1 (B:Nat):FJob->Value->World->Prop:=fun j v w'=>∃vo vi vc,v=.agg (jobV j vo vi vc).toArray/\QbK B j.outs vo w'/\QbK B j.ins vi w'/\QbK B j.cols vc w'
theorem RD.sets {R k:Nat} {ts:List Tk} (y:R<k):∀(D:List Value) (o:Nat) (w:World),RD w R ts->RD (w.setCells k o D) R ts
 |[],_,_,h=>h
 |v::r,o,w,h=>RD.sets y r (o+1) _ (h.set (i:=o) (v:=v) y)
theorem But.puts {R k:Nat} {w:World} (y:w.heap.size<=k):∀(D:List Value) (o:Nat) (w':World),But R w w'->But R w (w'.setCells k o D)
 |[],_,_,h=>h
 |v::r,o,w',h=>But.puts y r (o+1) _ (h.put (i:=o) y v)
theorem QcY {base k:Nat} {e:TypeId} {z n:Nat} {v:Value} {xs:List Value} (y:k<base):∀(D:List Value) (o:Nat) (w:World),w.ownsRow base e z v n xs->(w.setCells k o D).ownsRow base e z v n xs
 |[],_,_,h=>h
 |u::r,o,w,h=>QcY y r (o+1) _ (ownsRow_setCell_below h (a:=⟨k,o,none⟩) y u)
def Qrg:List Value->Nat->List Value->List Value
 |vs,_,[]=>vs
 |vs,o,u::r=>Qrg (vs.set o u) (o+1) r
theorem Box.sets {k:Nat}:∀(us:List Value) (o:Nat) (w:World) (y:List Value),Box w k y->Box (w.setCells k o us) k (Qrg y o us)
 |[],_,_,_,h=>h
 |u::r,o,w,y,h=>Box.sets r (o+1) _ _ (h.set o u)
theorem QjR:∀(us y pre:List Value),y.length=us.length->Qrg (pre++y) pre.length us=pre++us
 |[],y,pre,h=>by
  have:y=[]:=List.eq_nil_of_length_eq_zero (by simpa using h);subst this;rfl
 |u::r,[],pre,h=>by simp at h
 |u::r,v::y,pre,h=>by
  have D:=QjR r y (pre++[u]) (by simpa using h);unfold Qrg;rw[List.set_append_right _ _ (Nat.le_refl _)];simp only[Nat.sub_self,List.set_cons_zero];rw[List.length_append] at D;simpa using D
theorem Box.full {k:Nat} {w:World} {y us:List Value} (h:Box w k y) (F:y.length=us.length):Box (w.setCells k 0 us) k us:=by
 have D:=Box.sets us 0 w y h;have E:=QjR us y [] F;simp only[List.nil_append,List.length_nil] at E;rw[E] at D;exact D
theorem Box.range {w:World} {k:Nat} {y:List Value} (h:Box w k y):w.rangeAt k 0 y:=fun j v hv=>by rw[Nat.zero_add];exact h.cell j hv
theorem Box.there {w:World} {k:Nat} {y:List Value} (h:Box w k y):w.there k 0 y.length:=fun j hj=>by
 rw[Nat.zero_add];exact⟨by rw[h.cell j (List.getElem?_eq_getElem hj)];rfl,h.fz j⟩
theorem Qeg {fn:Func} {p:Tmp} {D:TypeId} (h:fn.results=#[.cell p D]) (y:Array Value) (P:Program) (w:World) {a:Addr} {v:Value} (E:y.getD p undef=.pointer (some a)) (F:(loadVar D a).run P w=.ok v w):
 (results fn y).run P w=.ok v w:=by
 have e:(results fn y).run P w=((asAddr (y.getD p undef)).run P w).andThen fun a w₁=>(loadVar D a).run P w₁:=by
  simp only[results,h];simp[Sem.run_bind,Result.andThen]
 rw[e,E];simp[asAddr,Result.andThen,F]
theorem Qh7 {at_:Nat} {outs:List By} {retry:Int} {ts ts':List Tk} {j:FJob} (h:Qca at_ outs retry ts=.ok (j,ts')):j.outs=outs:=by
 unfold Qca at h;simp only[Except.bind] at h
 repeat' split at h
 all_goals first
  |(simp only[Except.ok.injEq,Prod.mk.injEq] at h;rw[<-h.1];done)
  |(cases h;done)
theorem But.of2 {R K:Nat} {w D E:World} (h:But R w D) (y:But2 R K D E) (F:w.heap.size<=K):But R w E:=
 ⟨y.os.trans h.os,y.tape.trans h.tape,y.output.trans h.output,Nat.le_trans h.size y.size,fun i hi hne=>(y.block i (Nat.lt_of_lt_of_le hi h.size) (by intro e;exact hne (by rw[e])) (by omega)).trans (h.block i hi hne)⟩
theorem Box.but2 {R K k:Nat} {w w':World} {y:List Value} (h:Box w k y) (F:But2 R K w w') (D:k≠R) (E:k≠K):Box w' k y:=h.block (F.block k h.lt D E)
theorem QjS {w w':World} {R K base:Nat} {e:TypeId} {size:Nat} {v:Value} {n:Nat} {xs:List Value} (h:w.ownsRow base e size v n xs) (J:But2 R K w w') (N:R<base) (O:K<base):w'.ownsRow base e size v n xs:=by
 obtain⟨E,h|⟨g,F,D,I,M,y,r⟩⟩:=h
 ·exact⟨E,Or.inl h⟩
 ·have H:g<w.heap.size:=by
   rcases Nat.lt_or_ge g w.heap.size with q|q
   ·exact q
   ·rw[Array.getElem?_eq_none q] at y;simp at y
  exact⟨E,Or.inr ⟨g,F,D,I,M,(J.block g H (by omega) (by omega)).trans y,r⟩⟩
theorem QjT (R:Nat) (ts:List Tk) (w:World) (h:RD w R ts):Calls Tryz.prog 81 #[.pointer (some ⟨R,0,none⟩)] w fun e w'=>Rs (QmA ts) (Qr1 w.heap.size) e w.heap.size w' R/\But R w w':=by
 have hR:=h.lt;have H0:=Hk h;have B0:=Hk (But.refl R w);have E0:=Hk (QmA.eq_1 ts);clear h;go_enter Tryz.func81,Tryz.ntmps81;have H1:=Hk (H0.out.below (Qaa _ (.cells #[.int .i64 0,.int .i64 0,.slice none 0 0,.slice none 0 0,.slice none 0 0,.string ⟨#[]⟩,.string ⟨#[]⟩,.int .i64 0,.int .i64 0,.string ⟨#[]⟩,.string ⟨#[]⟩,.int .i64 0,.int .i64 0,.string ⟨#[]⟩,.int .i64 0] 50)));have B2:=Hk (B0.out.box (.cells #[.int .i64 0,.int .i64 0,.slice none 0 0,.slice none 0 0,.slice none 0 0,.string ⟨#[]⟩,.string ⟨#[]⟩,.int .i64 0,.int .i64 0,.string ⟨#[]⟩,.string ⟨#[]⟩,.int .i64 0,.int .i64 0,.string ⟨#[]⟩,.int .i64 0] 50));have X3:=Hk (Box.new w [.int .i64 0,.int .i64 0,.slice none 0 0,.slice none 0 0,.slice none 0 0,.string ⟨#[]⟩,.string ⟨#[]⟩,.int .i64 0,.int .i64 0,.string ⟨#[]⟩,.string ⟨#[]⟩,.int .i64 0,.int .i64 0,.string ⟨#[]⟩,.int .i64 0] 50 _ rfl);clear H0 B0;go_wp2_with (go_at_call 111;fail);refine(QaK Qhp R ts _ H1.out (by decide)).mono ?_;rintro e H ⟨⟨a1,cr,v,y,rfl,N,D⟩|⟨er,y,F⟩,aL⟩
 rotate_left
 ·obtain⟨U,rfl,O,t1,tB,tl⟩:=F;have Z:=Hk (Qaf E0.out y);clear y;go_wp2;exact⟨rfl,Or.inr ⟨_,Z.out,U,rfl,O,t1,Nat.le_trans B2.out.size tB,tl⟩,B2.out.then aL⟩
 subst N;have he:=bind_ok E0.out y
 dsimp only at he
 have E4:=Hk he;clear he y;have H5:=Hk D;have B6:=Hk (B2.out.then aL);have X7:=Hk (X3.out.but aL (by omega));have q8:=X7.out.lt;have cj:=aL.size
 try simp only[World.size_alloc,Qac] at cj
 clear H1 B2 X3 E0 D aL;have bL:=Hk (H5.out.below (Qaa _ (.cells #[.int .i64 (a1:Nat),.int .i64 0,.slice none 0 0,.slice none 0 0,.slice none 0 0,.string ⟨#[]⟩,.string ⟨#[]⟩,.int .i64 0,.int .i64 0,.string ⟨#[]⟩,.string ⟨#[]⟩,.int .i64 0,.int .i64 0,.string ⟨#[]⟩,.int .i64 0] 50)));have a0:=Hk (B6.out.box (.cells #[.int .i64 (a1:Nat),.int .i64 0,.slice none 0 0,.slice none 0 0,.slice none 0 0,.string ⟨#[]⟩,.string ⟨#[]⟩,.int .i64 0,.int .i64 0,.string ⟨#[]⟩,.string ⟨#[]⟩,.int .i64 0,.int .i64 0,.string ⟨#[]⟩,.int .i64 0] 50));have bI:=Hk (X7.out.below (Qaa _ (.cells #[.int .i64 (a1:Nat),.int .i64 0,.slice none 0 0,.slice none 0 0,.slice none 0 0,.string ⟨#[]⟩,.string ⟨#[]⟩,.int .i64 0,.int .i64 0,.string ⟨#[]⟩,.string ⟨#[]⟩,.int .i64 0,.int .i64 0,.string ⟨#[]⟩,.int .i64 0] 50)));have bH:=Hk (Box.new H [.int .i64 (a1:Nat),.int .i64 0,.slice none 0 0,.slice none 0 0,.slice none 0 0,.string ⟨#[]⟩,.string ⟨#[]⟩,.int .i64 0,.int .i64 0,.string ⟨#[]⟩,.string ⟨#[]⟩,.int .i64 0,.int .i64 0,.string ⟨#[]⟩,.int .i64 0] 50 _ rfl);clear H5 B6 X7;go_wp2_with (go_at_call 115;fail);refine(Qex R cr _ bL.out).mono ?_;rintro e w2 ⟨⟨I,aA,v,y,rfl,N,D⟩|⟨er,y,F⟩,az⟩
 rotate_left
 ·obtain⟨U,rfl,O,t1,tB,tl⟩:=F;have Z:=Hk (Qaf E4.out y);clear y;go_wp2;exact⟨rfl,Or.inr ⟨_,Z.out,U,rfl,O,t1,Nat.le_trans a0.out.size tB,tl⟩,a0.out.then az⟩
 unfold QbK at N;obtain⟨M,K,b6⟩:=own_slice N;subst b6;simp only[World.size_alloc] at N;have OO:=Hk N;clear N;have he:=bind_ok E4.out y
 dsimp only at he
 have aT:=Hk he;clear he y;have bF:=Hk D;have bM:=Hk (a0.out.then az);have bj:=Hk (bI.out.but az (by omega));have cN:=bj.out.lt;have ay:=Hk (bH.out.but az (by omega));have cI:=ay.out.lt;have bR:=az.size
 try simp only[World.size_alloc,Qac] at bR
 clear bL a0 bI bH E4 D az;have cv:=ay.out.cell 2 rfl;have cC:=ay.out.fz 2;have cz:=ay.out.lt;have br:=Hk (bF.out.set (k:=H.heap.size) (i:=2) (v:=.slice M I.length K) (by omega));have aY:=Hk (bM.out.put (k:=H.heap.size) (i:=2) (by omega) (.slice M I.length K));have aU:=Hk (bj.out.other (k':=H.heap.size) 2 (.slice M I.length K) (by omega));have aS:Hid (Box (w2.setCell ⟨H.heap.size,2,none⟩ (.slice M I.length K)) H.heap.size [.int .i64 (a1:Nat),.int .i64 0,.slice M I.length K,.slice none 0 0,.slice none 0 0,.string ⟨#[]⟩,.string ⟨#[]⟩,.int .i64 0,.int .i64 0,.string ⟨#[]⟩,.string ⟨#[]⟩,.int .i64 0,.int .i64 0,.string ⟨#[]⟩,.int .i64 0]):=Hk (ay.out.set 2 (.slice M I.length K));have bO:=Hk (ownsRow_setCell_below OO.out (a:=⟨H.heap.size,2,none⟩) (by show H.heap.size<_;omega) (.slice M I.length K));clear bF bM bj ay OO;have aZ:=Hk (Qcu Qh4 R aA _ br.out (by decide))
 by_cases hm:Qar aA=Qh4
 ·as_aux_lemma=>
  rw[if_pos hm,show(Qar aA==Qh4)=true by simp[hm]] at aZ;have he:=aT.out;rw[QfS,if_pos hm] at he;have ER:=Hk he;clear hm he aT;go_wp2_with (go_at_call 114;fail);refine aZ.out.mono ?_;rintro e w3 ⟨rfl,D,hb⟩;have HM:=Hk D;have BM:=Hk (aY.out.then hb);have RM:=Hk (aU.out.but hb (by omega));have JM:=Hk (aS.out.but hb (by omega));have OM:=Hk (Qam bO.out hb (by omega));have cp:=RM.out.lt;have bY:=JM.out.lt;clear D hb br aY aU aS;go_wp2_with (go_at_call 116;fail);refine(Qg2 5 R aA.tail _ HM.out).mono ?_;rintro e w4 ⟨⟨a4,bu,v,y,rfl,N,D⟩|⟨er,y,F⟩,J⟩
  rotate_left
  ·obtain⟨U,rfl,O,t1,tB,tl⟩:=F;have Z:=Hk (Qaf ER.out y);clear y;go_wp2;exact⟨rfl,Or.inr ⟨_,Z.out,U,rfl,O,t1,Nat.le_trans BM.out.size tB,tl⟩,BM.out.then J⟩
  unfold encI at N;subst N;have he:=bind_ok ER.out y
  dsimp only at he
  have aw:=Hk he;clear he y;have aI:=Hk D;have av:=Hk (BM.out.then J);have am:=Hk (RM.out.but J (by omega));have ck:=am.out.lt;have ad:=Hk (JM.out.but J (by omega));have cf:=ad.out.lt;have aK:=Hk (Qam OM.out J (by omega));have aP:=J.size
  try simp only[World.size_alloc,Qac] at aP
  clear HM BM RM JM OM ER D J;have cE:=ad.out.cell 14 rfl;have cA:=ad.out.fz 14;have cw:=ad.out.lt;have bP:=Hk (aI.out.set (k:=H.heap.size) (i:=14) (v:=.int .i64 a4) (by omega));have aW:=Hk (av.out.put (k:=H.heap.size) (i:=14) (by omega) (.int .i64 a4));have aD:=Hk (am.out.other (k':=H.heap.size) 14 (.int .i64 a4) (by omega));have bN:Hid (Box (w4.setCell ⟨H.heap.size,14,none⟩ (.int .i64 a4)) H.heap.size [.int .i64 (a1:Nat),.int .i64 0,.slice M I.length K,.slice none 0 0,.slice none 0 0,.string ⟨#[]⟩,.string ⟨#[]⟩,.int .i64 0,.int .i64 0,.string ⟨#[]⟩,.string ⟨#[]⟩,.int .i64 0,.int .i64 0,.string ⟨#[]⟩,.int .i64 a4]):=Hk (ad.out.set 14 (.int .i64 a4));have a3:=Hk (ownsRow_setCell_below aK.out (a:=⟨H.heap.size,14,none⟩) (by show H.heap.size<_;omega) (.int .i64 a4));clear aI av am ad aK;go_wp2_with (go_at_call 111;fail);refine(QaK [61] R bu _ bP.out (by decide)).mono ?_;rintro e w5 ⟨⟨a5,b3,v,y,rfl,N,D⟩|⟨er,y,F⟩,ax⟩
  rotate_left
  ·obtain⟨U,rfl,O,t1,tB,tl⟩:=F;have Z:=Hk (Qaf aw.out y);clear y;go_wp2;exact⟨rfl,Or.inr ⟨_,Z.out,U,rfl,O,t1,Nat.le_trans aW.out.size tB,tl⟩,aW.out.then ax⟩
  subst N;have he:=bind_ok aw.out y
  dsimp only at he
  have bk:=Hk he;clear he y;have bJ:=Hk D;have aX:=Hk (aW.out.then ax);have bb:=Hk (aD.out.but ax (by omega));have cQ:=bb.out.lt;have aV:=Hk (bN.out.but ax (by omega));have cL:=aV.out.lt;have bK:=Hk (Qam a3.out ax (by omega));have bW:=ax.size
  try simp only[World.size_alloc,Qac] at bW
  clear bP aW aD bN a3 aw D ax;go_wp2_with (go_at_call 117;fail);refine(Qh6 a1 I a4 (.slice M I.length K) H.heap.size R b3 _ bJ.out aV.out (by omega)).mono ?_;rintro e w9 ⟨⟨j,bw,vi,vc,y,rfl,D,aE,ae,af⟩|⟨er,y,F⟩,V⟩
  rotate_left
  ·obtain⟨U,rfl,O,t1,tB,tl⟩:=F;have Z:=Hk (Qaf bk.out y);clear y;go_wp2;exact⟨rfl,Or.inr ⟨_,Z.out,U,rfl,O,t1,Nat.le_trans aX.out.size tB,tl⟩,aX.out.of2 V (by omega)⟩
  have bt:=Hk (Qh7 y);have he:=bind_ok bk.out y
  dsimp only at he
  have E9:=Hk he;clear he y;have H9:=Hk D;have B9:=Hk (aX.out.of2 V (by omega));have R9:=Hk (bb.out.but2 V (by omega) (by omega));have J9:=Hk aE;have O9:=Hk (QjS bK.out V (by omega) (by omega));unfold QbK at ae af;have s9:=aV.out.lt;have OI:=Hk (own_mono (B:=H.heap.size+1) (by omega) ae);have OC:=Hk (own_mono (B:=H.heap.size+1) (by omega) af);have b1:=R9.out.lt;obtain⟨ia,ic,bh⟩:=own_slice ae;obtain⟨ca,cc,bo⟩:=own_slice af;subst bh bo;clear D aE ae af V bJ aX bk aV bb bK;go_wp2_with (go_at_call 111;fail);refine(QaK [59] R bw _ H9.out (by decide)).mono ?_;rintro e aJ ⟨⟨a7,bV,v,y,rfl,N,D⟩|⟨er,y,F⟩,E⟩
  rotate_left
  ·obtain⟨U,rfl,O,t1,tB,tl⟩:=F;have Z:=Hk (Qaf E9.out y);clear y;go_wp2;exact⟨rfl,Or.inr ⟨_,Z.out,U,rfl,O,t1,Nat.le_trans B9.out.size tB,tl⟩,B9.out.then E⟩
  subst N;have he:=bind_ok E9.out y
  dsimp only at he
  have co:=Hk he;clear he y;have b5:=Hk D;have b8:=Hk (B9.out.then E);have bm:=Hk (R9.out.but E (by omega));have cJ:=bm.out.lt;have bG:=Hk (J9.out.but E (by omega));have cP:=bG.out.lt;have cm:=Hk (Qam O9.out E (by omega));have b9:=Hk (Qam OI.out E (by omega));have ci:=Hk (Qam OC.out E (by omega));have bX:=E.size
  try simp only[World.size_alloc,Qac] at bX
  clear H9 B9 R9 J9 O9 OI OC E9 D E;have a8:Hid (Box aJ H.heap.size (jobV j (.slice M I.length K) (.slice ia j.ins.length ic) (.slice ca j.cols.length cc))):=bG;have bA:=Hk bm.out.there;have bD:=Hk (bm.out.full (us:=(jobV j (.slice M I.length K) (.slice ia j.ins.length ic) (.slice ca j.cols.length cc))) rfl);have bi:=Hk (RD.sets (k:=w.heap.size) (by omega) (jobV j (.slice M I.length K) (.slice ia j.ins.length ic) (.slice ca j.cols.length cc)) 0 _ b5.out);have bg:=Hk (But.puts (k:=w.heap.size) (Nat.le_refl _) (jobV j (.slice M I.length K) (.slice ia j.ins.length ic) (.slice ca j.cols.length cc)) 0 _ b8.out);have ar:(Tryz.prog.info? 50).map (·.size)=some 15:=by kernel_rfl
  have au:=Hk ar;clear ar;have ao:(jobV j (.slice M I.length K) (.slice ia j.ins.length ic) (.slice ca j.cols.length cc)).toArray.all (·.oneCell')=true:=by simp[jobV,Value.oneCell']
  have a9:=Hk ao;clear ao;generalize al:(jobV j (.slice M I.length K) (.slice ia j.ins.length ic) (.slice ca j.cols.length cc))=JL at*;have bs:=Hk al;have aF:JL.length=15:=by rw[<-al];rfl
  have aq:=Hk aF;clear al aF;have ap:JL.toArray.size=15:=aq.out;have bx:Hid (aJ.there w.heap.size 0 JL.toArray.size):=by
   show World.there _ _ _ _
   rw[ap];exact bA.out
  have bn:Hid ((Tryz.prog.info? 50).map (·.size)=some JL.toArray.size):=by
   show _=_
   rw[ap];exact au.out
  clear ap;go_wp2_with (first|(refine wpList_load_mid rfl 50 (.tmp 3) rfl H.heap.size 0 rfl JL _ a8.out.range Tryz.underlying50 rfl (by rw[aq.out];exact au.out) ?_)|(refine wpList_store_mid rfl 50 (.tmp 2) (.tmp 21) rfl w.heap.size 0 JL.toArray rfl rfl bx.out bn.out a9.out ?_));refine bodyPost_ret (v:=.agg JL.toArray) ?_ rfl ?_
  ·exact Qeg rfl _ _ _ rfl (run_loadVar_mid _ w.heap.size 0 50 JL _ bD.out.range Tryz.underlying50 rfl (by rw[aq.out];exact au.out))
  have bC:=bs.out;subst bC;exact⟨Or.inl ⟨_,_,_,co.out,rfl,⟨_,_,_,rfl,(show QbK w.heap.size j.outs _ _ from by unfold QbK;rw[bt.out];exact own_mono (by omega) (QcY (k:=w.heap.size) (by omega) _ _ _ cm.out)),(show QbK w.heap.size j.ins _ _ from own_mono (by omega) (QcY (k:=w.heap.size) (by omega) _ _ _ b9.out)),(show QbK w.heap.size j.cols _ _ from own_mono (by omega) (QcY (k:=w.heap.size) (by omega) _ _ _ ci.out))⟩,bi.out⟩,bg.out⟩
 ·as_aux_lemma=>
  rw[if_neg hm,show(Qar aA==Qh4)=false by simp[hm]] at aZ;have he:=aT.out;rw[QfS,if_neg hm] at he;have bz:=bind_ok he rfl
  dsimp only at bz
  have ER:=Hk bz;clear hm he bz aT;go_wp2_with (go_at_call 114;fail);refine aZ.out.mono ?_;rintro e w3 ⟨rfl,D,hb⟩;have HM:=Hk D;have BM:=Hk (aY.out.then hb);have RM:=Hk (aU.out.but hb (by omega));have JM:=Hk (aS.out.but hb (by omega));have OM:=Hk (Qam bO.out hb (by omega));have cp:=RM.out.lt;have bY:=JM.out.lt;clear D hb br aY aU aS;go_wp2_with (go_at_call 111;fail);refine(QaK [61] R aA _ HM.out (by decide)).mono ?_;rintro e w4 ⟨⟨a5,bu,v,y,rfl,N,D⟩|⟨er,y,F⟩,J⟩
  rotate_left
  ·obtain⟨U,rfl,O,t1,tB,tl⟩:=F;have Z:=Hk (Qaf ER.out y);clear y;go_wp2;exact⟨rfl,Or.inr ⟨_,Z.out,U,rfl,O,t1,Nat.le_trans BM.out.size tB,tl⟩,BM.out.then J⟩
  subst N;have he:=bind_ok ER.out y
  dsimp only at he
  have aw:=Hk he;clear he y;have aI:=Hk D;have av:=Hk (BM.out.then J);have am:=Hk (RM.out.but J (by omega));have ck:=am.out.lt;have ad:=Hk (JM.out.but J (by omega));have cf:=ad.out.lt;have aK:=Hk (Qam OM.out J (by omega));have aP:=J.size
  try simp only[World.size_alloc,Qac] at aP
  clear HM BM RM JM OM ER D J;go_wp2_with (go_at_call 117;fail);refine(Qh6 a1 I 0 (.slice M I.length K) H.heap.size R bu _ aI.out ad.out (by omega)).mono ?_;rintro e w9 ⟨⟨j,bw,vi,vc,y,rfl,D,aE,ae,af⟩|⟨er,y,F⟩,V⟩
  rotate_left
  ·obtain⟨U,rfl,O,t1,tB,tl⟩:=F;have Z:=Hk (Qaf aw.out y);clear y;go_wp2;exact⟨rfl,Or.inr ⟨_,Z.out,U,rfl,O,t1,Nat.le_trans av.out.size tB,tl⟩,av.out.of2 V (by omega)⟩
  have bt:=Hk (Qh7 y);have he:=bind_ok aw.out y
  dsimp only at he
  have E9:=Hk he;clear he y;have H9:=Hk D;have B9:=Hk (av.out.of2 V (by omega));have R9:=Hk (am.out.but2 V (by omega) (by omega));have J9:=Hk aE;have O9:=Hk (QjS aK.out V (by omega) (by omega));unfold QbK at ae af;have s9:=ad.out.lt;have OI:=Hk (own_mono (B:=H.heap.size+1) (by omega) ae);have OC:=Hk (own_mono (B:=H.heap.size+1) (by omega) af);have b1:=R9.out.lt;obtain⟨ia,ic,bh⟩:=own_slice ae;obtain⟨ca,cc,bo⟩:=own_slice af;subst bh bo;clear D aE ae af V aI av aw ad am aK;go_wp2_with (go_at_call 111;fail);refine(QaK [59] R bw _ H9.out (by decide)).mono ?_;rintro e aJ ⟨⟨a7,bV,v,y,rfl,N,D⟩|⟨er,y,F⟩,E⟩
  rotate_left
  ·obtain⟨U,rfl,O,t1,tB,tl⟩:=F;have Z:=Hk (Qaf E9.out y);clear y;go_wp2;exact⟨rfl,Or.inr ⟨_,Z.out,U,rfl,O,t1,Nat.le_trans B9.out.size tB,tl⟩,B9.out.then E⟩
  subst N;have he:=bind_ok E9.out y
  dsimp only at he
  have ce:=Hk he;clear he y;have ch:=Hk D;have b4:=Hk (B9.out.then E);have bp:=Hk (R9.out.but E (by omega));have cM:=bp.out.lt;have aD:=Hk (J9.out.but E (by omega));have cO:=aD.out.lt;have a3:=Hk (Qam O9.out E (by omega));have cd:=Hk (Qam OI.out E (by omega));have cb:=Hk (Qam OC.out E (by omega));have bS:=E.size
  try simp only[World.size_alloc,Qac] at bS
  clear H9 B9 R9 J9 O9 OI OC E9 D E;have a8:Hid (Box aJ H.heap.size (jobV j (.slice M I.length K) (.slice ia j.ins.length ic) (.slice ca j.cols.length cc))):=aD;have bA:=Hk bp.out.there;have bD:=Hk (bp.out.full (us:=(jobV j (.slice M I.length K) (.slice ia j.ins.length ic) (.slice ca j.cols.length cc))) rfl);have bi:=Hk (RD.sets (k:=w.heap.size) (by omega) (jobV j (.slice M I.length K) (.slice ia j.ins.length ic) (.slice ca j.cols.length cc)) 0 _ ch.out);have bg:=Hk (But.puts (k:=w.heap.size) (Nat.le_refl _) (jobV j (.slice M I.length K) (.slice ia j.ins.length ic) (.slice ca j.cols.length cc)) 0 _ b4.out);have ar:(Tryz.prog.info? 50).map (·.size)=some 15:=by kernel_rfl
  have au:=Hk ar;clear ar;have ao:(jobV j (.slice M I.length K) (.slice ia j.ins.length ic) (.slice ca j.cols.length cc)).toArray.all (·.oneCell')=true:=by simp[jobV,Value.oneCell']
  have a9:=Hk ao;clear ao;generalize al:(jobV j (.slice M I.length K) (.slice ia j.ins.length ic) (.slice ca j.cols.length cc))=JL at*;have bs:=Hk al;have aF:JL.length=15:=by rw[<-al];rfl
  have aq:=Hk aF;clear al aF;have ap:JL.toArray.size=15:=aq.out;have bx:Hid (aJ.there w.heap.size 0 JL.toArray.size):=by
   show World.there _ _ _ _
   rw[ap];exact bA.out
  have bn:Hid ((Tryz.prog.info? 50).map (·.size)=some JL.toArray.size):=by
   show _=_
   rw[ap];exact au.out
  clear ap;go_wp2_with (first|(refine wpList_load_mid rfl 50 (.tmp 3) rfl H.heap.size 0 rfl JL _ a8.out.range Tryz.underlying50 rfl (by rw[aq.out];exact au.out) ?_)|(refine wpList_store_mid rfl 50 (.tmp 2) (.tmp 21) rfl w.heap.size 0 JL.toArray rfl rfl bx.out bn.out a9.out ?_));refine bodyPost_ret (v:=.agg JL.toArray) ?_ rfl ?_
  ·exact Qeg rfl _ _ _ rfl (run_loadVar_mid _ w.heap.size 0 50 JL _ bD.out.range Tryz.underlying50 rfl (by rw[aq.out];exact au.out))
  have bC:=bs.out;subst bC;exact⟨Or.inl ⟨_,_,_,ce.out,rfl,⟨_,_,_,rfl,(show QbK w.heap.size j.outs _ _ from by unfold QbK;rw[bt.out];exact own_mono (by omega) (QcY (k:=w.heap.size) (by omega) _ _ _ a3.out)),(show QbK w.heap.size j.ins _ _ from own_mono (by omega) (QcY (k:=w.heap.size) (by omega) _ _ _ cd.out)),(show QbK w.heap.size j.cols _ _ from own_mono (by omega) (QcY (k:=w.heap.size) (by omega) _ _ _ cb.out))⟩,bi.out⟩,bg.out⟩
end Go.Proofs.YtjlgejennghhlaaGreatDoor.Fw
namespace Go.Proofs.YtjlgejennghhlaaGreatDoor.Pl
open Go.RowKit Fw
abbrev Cs:=List (ByteArray×Int)
abbrev CM:=List (By×Cs)
def QbH (m:CM) (n:By):Option Cs:=(m.find? fun x=>x.1==n).map (·.2)
def Qa0 (l:List (By×Int)):Cs:=l.map fun c=>(ba c.1,c.2)
def Qe1 (f:Flw):CM:=f.ins.map fun i=>(i.name,Qa0 i.cols)
def inC (m:CM) (j:FJob):List Cs:=j.ins.map fun n=>(QbH m n).getD []
abbrev keysM (m:CM):List By:=m.map (·.1)
theorem QeC {m:CM} {n:By} (h:n∉keysM m):QbH m n=none:=by
 unfold QbH;rw[List.find?_eq_none.2 (fun x hx=>by
  intro q;exact h (List.mem_map.2 ⟨x,hx,by simpa using q⟩))]
 rfl
theorem QeD {m:CM} {n:By} (h:n∈keysM m):∃x∈m,x.1=n/\QbH m n=some x.2:=by
 unfold QbH
 cases hf:m.find? fun x=>x.1==n with
 |none=>
  obtain⟨x,y,e⟩:=List.mem_map.1 h;exact absurd (by simpa using e) (List.find?_eq_none.1 hf x y)
 |some x=>exact⟨x,List.mem_of_find?_eq_some hf,by simpa using List.find?_some hf,rfl⟩
theorem Qdx {m r:CM} {n:By} (h:n∈keysM m):QbH (m++r) n=QbH m n:=by
 unfold QbH;rw[List.find?_append]
 cases hf:m.find? fun x=>x.1==n with
 |none=>
  obtain⟨x,y,e⟩:=List.mem_map.1 h;exact absurd (by simpa using e) (List.find?_eq_none.1 hf x y)
 |some x=>rfl
theorem QfY {m r:CM} {n:By} (h:n∉keysM m):QbH (m++r) n=QbH r n:=by
 have:=QeC h;unfold QbH at this⊢;rw[List.find?_append]
 cases hf:m.find? fun x=>x.1==n with
 |none=>rfl
 |some x=>rw[hf] at this;cases this
theorem QfZ {l:List By} {c:Cs} {n:By} (h:n∈l):QbH (l.map fun x=>(x,c)) n=some c:=by
 obtain⟨x,E,-,D⟩:=QeD (m:=l.map fun x=>(x,c)) (n:=n) (by simpa [keysM] using h);obtain⟨y,-,rfl⟩:=List.mem_map.1 E;exact D
theorem Qek {α:Type}:∀(h y:List α),(List.range' h.length y.length).filterMap (fun k=>(h++y)[k]?)=y
 |h,[]=>rfl
 |h,a::r=>by
  have e:(h++a::r)=(h++[a])++r:=by simp
  rw[List.length_cons,List.range'_succ,List.filterMap_cons];have D:(h++a::r)[h.length]? =some a:=by simp
  rw[D];simp only;rw[e];have:=Qek (h++[a]) r;rw[List.length_append,List.length_singleton] at this;rw[this]
theorem Good.perm_jobs {f:Flw} {o:List Nat} (h:Good f o):(Qbh f o).Perm f.jobs:=by
 have y:=(h.perm.filterMap (fun k=>f.jobs[k]?));have D:=Qek ([]:List FJob) f.jobs;rw[List.range_eq_range'] at y;have E:List.filterMap (fun k=>f.jobs[k]?) (List.range' 0 f.jobs.length)=f.jobs:=D;rw[E] at y;exact y
theorem Qel {f g:Flw} (y:g.ins=f.ins) (h:g.jobs.Perm f.jobs):(Qaw g).Perm (Qaw f):=by
 unfold Qaw;rw[y];exact List.Perm.append_left _ (h.flatMap_right _)
section
variable (E:FJob->List Cs->Int) (C:FJob->List Cs->Cs)
def runM:List FJob->CM->Option CM
 |[],m=>some m
 |j::r,m=>if E j (inC m j)=0 then runM r (m++j.outs.map fun n=>(n,C j (inC m j))) else none
def colsO (f:Flw) (o:List Nat):Option CM:=runM E C (Qbh f o) (Qe1 f)
structure Sol (f:Flw) (M:By->Option Cs):Prop where
 ins:∀i∈f.ins,M i.name=some (Qa0 i.cols)
 jobs:∀j∈f.jobs,E j (j.ins.map fun n=>(M n).getD [])=0/\∀n∈j.outs,M n=some (C j (j.ins.map fun n=>(M n).getD []))
 dom:∀n,n∉Qaw f->M n=none
end
section
variable {E:FJob->List Cs->Int} {C:FJob->List Cs->Cs}
theorem runM_keys:∀{p:List FJob} {m y:CM},runM E C p m=some y->∃r,y=m++r/\keysM r=p.flatMap (·.outs)
 |[],m,y,h=>⟨[],by simpa [runM] using h.symm,rfl⟩
 |j::r,m,y,h=>by
  unfold runM at h
  by_cases he:E j (inC m j)=0
  ·rw[if_pos he] at h;obtain⟨F,rfl,D⟩:=runM_keys h;refine⟨_,List.append_assoc _ _ _,?_⟩;rw[keysM,List.map_append,<-keysM,<-keysM,D];simp[keysM,Function.comp_def]
  ·rw[if_neg he] at h;cases h
theorem runM_at:∀{D:List FJob} {j:FJob} {F:List FJob} {m y:CM},runM E C (D++j::F) m=some y->∃m1,runM E C D m=some m1/\E j (inC m1 j)=0/\∃r,y=(m1++j.outs.map fun n=>(n,C j (inC m1 j)))++r
 |[],j,F,m,y,h=>by
  rw[List.nil_append] at h;unfold runM at h
  by_cases he:E j (inC m j)=0
  ·rw[if_pos he] at h;obtain⟨H,I,-⟩:=runM_keys h;exact⟨m,rfl,he,H,I⟩
  ·rw[if_neg he] at h;cases h
 |a::D,j,F,m,y,h=>by
  rw[List.cons_append] at h;unfold runM at h⊢
  by_cases he:E a (inC m a)=0
  ·rw[if_pos he] at h⊢;exact runM_at h
  ·rw[if_neg he] at h;cases h
theorem keys_ins (f:Flw):keysM (Qe1 f)=f.ins.map (·.name):=by simp[keysM,Qe1,Function.comp_def]
theorem run_sol {f:Flw} {o:List Nat} {m:CM} (hn:(Qaw f).Nodup) (ho:Good f o) (h:colsO E C f o=some m):Sol E C f (QbH m)/\(keysM m).Perm (Qaw f):=by
 unfold colsO at h;obtain⟨hj,U⟩:=ho.jobs;obtain⟨r,hr,hk⟩:=runM_keys h;have y:(keysM m).Perm (Qaw f):=by
  rw[hr,keysM,List.map_append,<-keysM,<-keysM,hk,keys_ins];exact List.Perm.append_left _ (ho.perm_jobs.flatMap_right _)
 have I:(keysM m).Nodup:=y.nodup_iff.2 hn;refine⟨⟨fun i hi=>?_,fun j hjm=>?_,fun n hno=>QeC (fun q=>hno (y.mem_iff.1 q))⟩,y⟩
 ·have F:i.name∈keysM (Qe1 f):=by rw[keys_ins];exact List.mem_map.2 ⟨i,hi,rfl⟩
  rw[hr,Qdx F];obtain⟨x,hx,e1,e2⟩:=QeD F;rw[e2];obtain⟨i',V,rfl⟩:=List.mem_map.1 hx;have J:(f.ins.map (·.name)).Nodup:=(List.nodup_append.1 hn).1;obtain⟨a,ha,rfl⟩:=List.mem_iff_getElem.1 hi;obtain⟨b,hb,rfl⟩:=List.mem_iff_getElem.1 V;have:=(List.getElem_inj (xs:=f.ins.map (·.name)) (i:=b) (j:=a) (h₀:=by simpa using hb) (h₁:=by simpa using ha) J).1 (by simpa using e1);subst this;rfl
 ·obtain⟨Z,p2,hp⟩:=List.append_of_mem ((hj j).2 hjm);rw[hp] at h U;obtain⟨D,h1,h2,r2,N⟩:=runM_at h;obtain⟨r1,ad,O⟩:=runM_keys h1;have K:keysM D=f.ins.map (·.name)++Z.flatMap (·.outs):=by
   rw[ad,keysM,List.map_append,<-keysM,<-keysM,O,keys_ins]
  have ab:∀n∈j.ins,QbH m n=QbH D n:=by
   intro n H;have:n∈keysM D:=by
    rw[K,List.mem_append];exact(U Z j p2 rfl n H).imp id (fun⟨j',a,b⟩=>List.mem_flatMap.2 ⟨j',a,b⟩)
   rw[N,List.append_assoc,Qdx this]
  have M:(j.ins.map fun n=>(QbH m n).getD [])=inC D j:=List.map_congr_left (fun n H=>by rw[ab n H]);rw[M];refine⟨h2,fun n hno=>?_⟩;have af:n∉keysM D:=by
   intro q;rw[N,List.append_assoc,keysM,List.map_append,List.map_append] at I;have hd:=(List.nodup_append.1 I).2.2;exact hd n q n (List.mem_append_left _ (by simpa [Function.comp_def] using hno)) rfl
  rw[N,List.append_assoc,QfY af,Qdx (by simpa [keysM,Function.comp_def] using hno),QfZ hno]
theorem runM_snoc:∀(p:List FJob) (j:FJob) (m:CM),runM E C (p++[j]) m=(runM E C p m).bind fun m1=>if E j (inC m1 j)=0 then some (m1++j.outs.map fun n=>(n,C j (inC m1 j))) else none
 |[],j,m=>by simp[runM]
 |a::p,j,m=>by
  rw[List.cons_append];unfold runM
  by_cases he:E a (inC m a)=0
  ·rw[if_pos he,if_pos he];exact runM_snoc p j _
  ·rw[if_neg he,if_neg he];rfl
theorem sol_run {f:Flw} {o:List Nat} {M:By->Option Cs} (U:Sol E C f M) (ho:Good f o):∃m,colsO E C f o=some m/\(∀n,QbH m n=M n)/\(keysM m).Perm (Qaw f):=by
 obtain⟨hj,Z⟩:=ho.jobs;have aa:∀(H y:List FJob),Qbh f o=y++H->∀h,runM E C y (Qe1 f)=some h->(∀n∈keysM h,QbH h n=M n)->∃m,runM E C (y++H) (Qe1 f)=some m/\∀n∈keysM m,QbH m n=M n:=by
  intro H
  induction H with
  |nil=>intro y _ h D F;exact⟨h,by simpa using D,F⟩
  |cons j H ih=>
   intro y O h D F;obtain⟨r1,ad,V⟩:=runM_keys D;have N:keysM h=f.ins.map (·.name)++y.flatMap (·.outs):=by
    rw[ad,keysM,List.map_append,<-keysM,<-keysM,V,keys_ins]
   have I:inC h j=j.ins.map fun n=>(M n).getD []:=List.map_congr_left (fun n hnj=>by
    have:n∈keysM h:=by
     rw[N,List.mem_append];rw[O] at Z;exact(Z y j H rfl n hnj).imp id (fun⟨j',a,b⟩=>List.mem_flatMap.2 ⟨j',a,b⟩)
    rw[F n this])
   have ac:j∈f.jobs:=(hj j).1 (by rw[O];simp);obtain⟨q1,q2⟩:=U.jobs j ac;have hs:runM E C (y++[j]) (Qe1 f)=some (h++j.outs.map fun n=>(n,C j (inC h j))):=by
    rw[runM_snoc,D,Option.bind_some,if_pos (by rw[I];exact q1)]
   have:=ih (y++[j]) (by rw[O];simp) _ hs (fun n hn=>by
    by_cases hm:n∈keysM h
    ·rw[Qdx hm];exact F n hm
    ·rw[QfY hm];have J:n∈j.outs:=by
      rw[keysM,List.map_append,List.mem_append] at hn;exact(hn.resolve_left hm)|>fun q=>by simpa [Function.comp_def] using q
     rw[QfZ J,I,q2 n J])
   rw[List.append_assoc] at this;exact this
 obtain⟨m,D,F⟩:=aa (Qbh f o) [] rfl (Qe1 f) rfl (fun n hn=>by
  obtain⟨x,hx,e1,e2⟩:=QeD hn;obtain⟨i,hi,rfl⟩:=List.mem_map.1 hx;rw[e2,<-e1];exact(U.ins i hi).symm)
 rw[List.nil_append] at D;obtain⟨r,hr,hk⟩:=runM_keys D;have K:(keysM m).Perm (Qaw f):=by
  rw[hr,keysM,List.map_append,<-keysM,<-keysM,hk,keys_ins];exact List.Perm.append_left _ (ho.perm_jobs.flatMap_right _)
 refine⟨m,D,fun n=>?_,K⟩
 by_cases hn:n∈keysM m
 ·exact F n hn
 ·rw[QeC hn,U.dom n (fun q=>hn (K.mem_iff.2 q))]
theorem Sol.turn {f g:Flw} {M:By->Option Cs} (h:Sol E C f M) (D:g.ins=f.ins) (y:g.jobs.Perm f.jobs):Sol E C g M:=
 ⟨fun i hi2=>h.ins i (by rw[<-D];exact hi2),fun j hj=>h.jobs j (y.mem_iff.1 hj),fun n hn=>h.dom n (fun q=>hn ((Qel D y).mem_iff.2 q))⟩
theorem Sol.more {f g:Flw} {M:By->Option Cs} {nj:FJob} {nm:By} {c:Cs} (h:Sol E C f M) (N:g.ins=f.ins) (K:g.jobs=nj::f.jobs) (D:nm∉Qaw f) (F:nj.outs=[nm]) (H:∀j∈f.jobs,∀n∈j.ins,n∈Qaw f) (J:nj.ins.map (fun n=>(M n).getD [])=[c]) (O:nm∉nj.ins) (U:E nj [c]=0) (V:C nj [c]=c):
 Sol E C g fun n=>if n=nm then some c else M n:=by
 have I:∀j:FJob,nm∉j.ins->(j.ins.map fun n=>(if n=nm then some c else M n).getD [])=j.ins.map fun n=>(M n).getD []:=fun j y=>List.map_congr_left (fun n hn=>by
  rw[if_neg (by rintro rfl;exact y hn)])
 refine⟨fun i hi2=>?_,fun j y=>?_,fun n hn=>?_⟩
 ·rw[N] at hi2;rw[if_neg (by rintro rfl;exact D (List.mem_append_left _ (List.mem_map.2 ⟨i,hi2,rfl⟩)))];exact h.ins i hi2
 ·rw[K,List.mem_cons] at y;rcases y with rfl|y
  ·rw[I j O,J];refine⟨U,fun n hn=>?_⟩;rw[F,List.mem_singleton] at hn;rw[if_pos hn,V]
  ·rw[I j (fun q=>D (H j y nm q))];obtain⟨Z,q2⟩:=h.jobs j y;refine⟨Z,fun n hn=>?_⟩;rw[if_neg (by rintro rfl;exact D (List.mem_append_right _ (List.mem_flatMap.2 ⟨j,y,hn⟩)))];exact q2 n hn
 ·have e:Qaw g=f.ins.map (·.name)++(nj.outs++f.jobs.flatMap (·.outs)):=by simp[Qaw,N,K]
  rw[e,F] at hn;rw[if_neg (by rintro rfl;exact hn (by simp))];exact h.dom n (fun q=>hn (by
   rcases List.mem_append.1 q with q|q
   ·exact List.mem_append_left _ q
   ·exact List.mem_append_right _ (List.mem_append_right _ q)))
end
theorem QoD {f g:Flw} {nj:FJob} {nm:By} (N:g.ins=f.ins) (H:g.jobs=nj::f.jobs) (I:nm∉Qaw f) (F:nj.outs=[nm]) (D:∀j∈f.jobs,∀n∈j.ins,n∈Qaw f) (k:Nat) (d:List Nat):QeS g (k+1) (0::d.map (·+1))=QeS f k d:=by
 have K:∀n,Qhq g n=Qhq f n:=fun n=>by unfold Qhq;rw[N]
 have M:∀n q,mkB g n (q+1)=mkB f n q:=fun n q=>by unfold mkB;rw[H,List.getElem?_cons_succ]
 unfold QeS;rw[H,List.getElem?_cons_succ]
 cases hj:f.jobs[k]? with
 |none=>rfl
 |some j=>
  simp only;rw[Bool.eq_iff_iff,List.all_eq_true,List.all_eq_true];have E:∀n∈j.ins,(Qhq g n||(0::d.map (·+1)).any (mkB g n))=(Qhq f n||d.any (mkB f n)):=by
   intro n y;have J:mkB g n 0=false:=by
    unfold mkB;rw[H];simp only[List.getElem?_cons_zero,F];have:n≠nm:=by rintro rfl;exact I (D j (List.mem_of_getElem? hj) n y)
    simpa using this
   rw[K,List.any_cons,J,Bool.false_or,List.any_map]
   congr 1
   exact congrArg (fun p=>d.any p) (funext fun q=>M n q)
  exact⟨fun h n y=>by rw[<-E n y];exact h n y,fun h n y=>by rw[E n y];exact h n y⟩
theorem Qif:∀(l:List Nat) (i:Nat),(l.map (·+1)).eraseIdx i=(l.eraseIdx i).map (·+1)
 |[],i=>by simp
 |a::r,0=>rfl
 |a::r,i+1=>by simp[Qif r i]
theorem Qj5 {f g:Flw} {nj:FJob} {nm:By} (H:g.ins=f.ins) (F:g.jobs=nj::f.jobs) (D:nm∉Qaw f) (y:nj.outs=[nm]) (h:∀j∈f.jobs,∀n∈j.ins,n∈Qaw f):∀(q:Nat) (left told:List Nat),left.length=q->QgI g q (left.map (·+1)) (0::told.map (·+1))=(QgI f q left told).map fun o=>0::o.map (·+1)
 |0,left,told,_=>rfl
 |q+1,left,told,hl=>by
  unfold QgI;rw[List.findIdx?_map];have e:((fun k=>QeS g k (0::told.map (·+1)))∘fun x=>x+1)=fun k=>QeS f k told:=funext fun k=>QoD H F D y h k told
  rw[e]
  cases hx:left.findIdx? fun k=>QeS f k told with
  |none=>rfl
  |some i=>
   obtain⟨E,-,-⟩:=List.findIdx?_eq_some_iff_getElem.1 hx;simp only;have J:(left.map (·+1)).eraseIdx i=(left.eraseIdx i).map (·+1):=Qif left i;have I:(left.map (·+1)).getD i 0=left.getD i 0+1:=by
    simp[List.getD_eq_getElem?_getD,List.getElem?_eq_getElem E]
   rw[J,I];have:=Qj5 H F D y h q (left.eraseIdx i) (told++[left.getD i 0]) (by rw[List.length_eraseIdx_of_lt E];omega);rw[List.map_append] at this;exact this
theorem Qm4 {f g:Flw} {nj:FJob} {nm:By} (H:g.ins=f.ins) (D:g.jobs=nj::f.jobs) (E:nm∉Qaw f) (y:nj.outs=[nm]) (h:∀j∈f.jobs,∀n∈j.ins,n∈Qaw f) (F:∀n∈nj.ins,n∈f.ins.map (·.name)):Qjb g=(Qjb f).map fun o=>0::o.map (·+1):=by
 unfold Qjb;rw[D,List.length_cons];have I:QeS g 0 []=true:=by
  rw[Qfa];exact⟨nj,by rw[D];rfl,fun n hn=>Or.inl (by rw[H];exact F n hn)⟩
 have J:List.range (f.jobs.length+1)=0::(List.range f.jobs.length).map (·+1):=List.range_succ_eq_map;rw[show QgI g (f.jobs.length+1) (List.range (f.jobs.length+1)) []=QgI g f.jobs.length ((List.range f.jobs.length).map (·+1)) (0::([]:List Nat).map (·+1)) by
  rw[J,QgI,List.findIdx?_cons,I];rfl]
 exact Qj5 H D E y h f.jobs.length (List.range f.jobs.length) [] (by simp)
end Go.Proofs.YtjlgejennghhlaaGreatDoor.Pl
namespace Go.Proofs.YtjlgejennghhlaaGreatDoor.Dk
open Go.RowKit Go.Maps
def Rv (v:Value):Option (DataW Value×List MemPlace):=some (.held v,[])
def Sees (D:DataW Value) (m:Lit->Option Value):Prop:=IsMap D/\∀kl,has D kl=(m kl).isSome/\∀z,D.atKey kl z=(match m kl with |some v=>.held v|none=>z)
def MapIs (w:World) (k:TypeId) (b n:Nat) (m:Lit->Option Value):Prop:=∃D:DataW Value,w.ownsMap Tryz.prog k Rv b n D/\Sees D m
open Classical in
noncomputable def putM (m:Lit->Option Value) (kl:Lit) (v:Value):Lit->Option Value:=fun x=>if x=kl then some v else m x
theorem putM_at (m:Lit->Option Value) (h:Lit) (v:Value):putM m h v h=some v:=by simp[putM]
theorem putM_off (m:Lit->Option Value) {y x:Lit} (v:Value) (h:x≠y):putM m y v x=m x:=by simp[putM,h]
theorem Sees.put {D:DataW Value} {m:Lit->Option Value} (h:Sees D m) {y:Lit} (E:WideAt.IsKeyLit y) (v:Value):Sees (D.put y (.held v)) (putM m y v):=by
 refine⟨h.1.put _ _,fun x=>?_⟩
 by_cases e:x=y
 ·subst e;rw[putM_at];exact⟨has_put_same h.1 E _,fun z=>atKey_put_same h.1 E _ z⟩
 ·rw[putM_off m v e];exact⟨(has_put_other e _).trans (h.2 x).1,fun z=>(atKey_put_other e _ z).trans ((h.2 x).2 z)⟩
theorem MapIs.made (w:World) (k:TypeId):MapIs (w.alloc (.map #[] 0)) k w.heap.size 0 (fun _=>none):=⟨.map [],World.ownsMap_made w _ k Rv,isMap_empty,fun kl=>⟨rfl,fun z=>rfl⟩⟩
theorem MapIs.kept {w w':World} {k:TypeId} {b n:Nat} {m:Lit->Option Value} {row:Option Nat} (h:MapIs w k b n m) (F:w.grownBy w' row) (y:some b≠row):MapIs w' k b n m:=by
 obtain⟨D,E,H⟩:=h;exact⟨D,E.kept F y,H⟩
theorem MapIs.block {w w':World} {k:TypeId} {b n:Nat} {m:Lit->Option Value} (h:MapIs w k b n m) (H:w'.heap[b]? =w.heap[b]?):MapIs w' k b n m:=by
 obtain⟨D,⟨es,c,y,E⟩,F⟩:=h;exact⟨D,⟨es,c,H.trans y,E⟩,F⟩
theorem MapIs.lt {w:World} {k:TypeId} {b n:Nat} {m:Lit->Option Value} (h:MapIs w k b n m):b<w.heap.size:=by
 obtain⟨D,y,E⟩:=h;exact y.lt
theorem MapIs.mono {w:World} {k:TypeId} {b n y:Nat} {m:Lit->Option Value} (h:MapIs w k b n m) (F:n<=y):MapIs w k b y m:=by
 obtain⟨D,H,E⟩:=h;exact⟨D,H.mono F,E⟩
theorem MapIs.look {w:World} {k t e:TypeId} {b n:Nat} {m:Lit->Option Value} (h:MapIs w k b n m) (K:Keyed Tryz.prog k) (ht:Tryz.prog.underlying t=some (.map k e)) {z:Value} (hz:(zeroValue e).run Tryz.prog w=.ok z w) {O:Value} {I:Lit} (U:keyOf Tryz.prog k O=some I) (c:Bool):
 (Instr.lookup t (.map (some b)) O c).run Tryz.prog w=.ok (if c then .tuple #[(m I).getD z,.bool (m I).isSome] else(m I).getD z) w:=by
 obtain⟨D,⟨es,Z,hb,F,-,rfl⟩,hs⟩:=h;have M:=(hs.2 I).2;rcases fit_look c K ht hz hb F U with ⟨J,-,E⟩|⟨V,y,-,-,J,hR,E,-⟩
 ·have:m I=none:=by
   cases hm:m I with
   |none=>rfl
   |some v=>
    have H:=(E (.held (.bool true))).symm.trans (M _);have N:=(E (.held (.bool false))).symm.trans (M _);rw[hm] at H N;have:=H.trans N.symm;simp at this
  rw[J,this];rfl
 ·have hy:y=(.held V.val,[]):=(Option.some.inj hR).symm;have:m I=some V.val:=by
   cases hm:m I with
   |none=>
    have H:=(E (.held (.bool true))).symm.trans (M _);have N:=(E (.held (.bool false))).symm.trans (M _);rw[hm] at H N;have:=H.symm.trans N;simp at this
   |some v=>
    have H:=(E (.held (.bool true))).symm.trans (M _);rw[hm,hy] at H;simp at H;rw[H]
  rw[J,this];rfl
theorem MapIs.put {w:World} {k t e:TypeId} {b n:Nat} {m:Lit->Option Value} (h:MapIs w k b n m) (K:Keyed Tryz.prog k) (N:Tryz.prog.underlying t=some (.map k e)) (U:n<maxLen) {E:Value} {O:Lit} (y:keyOf Tryz.prog k E=some O) (v:Value):
 ∃w',(Instr.mapUpdate t (.map (some b)) E v).run Tryz.prog w=.ok () w'/\MapIs w' k b (n+1) (putM m O v)/\w.grownBy w' (some b)/\w'.heap.size=w.heap.size:=by
 obtain⟨D,M,hs⟩:=h;have h1':=M;obtain⟨es,aa,hb,F,Z,rfl⟩:=M;obtain⟨ag,I,H,-⟩:=fit_store (R':=Rv) K N hb F (Nat.lt_of_le_of_lt Z U) (fun _ _ _ _ hz=>hz) y (show Rv v=some (.held v,[]) from rfl);obtain⟨w',J,q2,q3⟩:=h1'.update K N U y (show Rv v=some (.held v,[]) from rfl);refine⟨w',J,⟨_,q2,hs.put (K.key y) v⟩,q3,?_⟩;have e:=(Result.ok.inj (H.symm.trans J)).2;have e2:=congrArg (fun(V:World)=>V.heap.size) e;exact e2.symm.trans (Array.size_setIfInBounds ..)
theorem str_key {k:TypeId} (y:Tryz.prog.underlying k=some .string) (s:ByteArray) (h:s.size<=maxLen):keyOf Tryz.prog k (.string s)=some (.string s.data.toList):=by
 simp[keyOf,y,mapKey,h]
end Go.Proofs.YtjlgejennghhlaaGreatDoor.Dk
namespace Go.Proofs.YtjlgejennghhlaaGreatDoor.Dk
open Go.RowKit
def Lst (w:World) (v:Value) (xs:List Value):Prop:=∃a c,v=.slice a xs.length c/\(xs=[]\/∃b o,a=some ⟨b,o,none⟩/\b<w.heap.size/\w.rangeAt b o xs)
theorem Lst.mv {w w':World} {v:Value} {xs:List Value} (h:Lst w v xs) (y:w.heap.size<=w'.heap.size) (E:∀k,v.ownBlock=some k->w'.heap[k]? =w.heap[k]?):Lst w' v xs:=by
 obtain⟨a,c,rfl,h⟩:=h;refine⟨a,c,rfl,?_⟩;rcases h with h|⟨b,o,rfl,D,F⟩
 ·exact Or.inl h
 ·exact Or.inr ⟨b,o,rfl,Nat.lt_of_lt_of_le D y,fun j v hv=>(World.cell?_of_block (w:=w) (E b rfl)).trans (F j v hv)⟩
theorem Lst.below {w w':World} {v:Value} {xs:List Value} (h:Lst w v xs) (D:Below w.heap.size w w'):Lst w' v xs:=by
 obtain⟨a,c,rfl,h⟩:=h;refine⟨a,c,rfl,?_⟩;rcases h with h|⟨b,o,rfl,y,E⟩
 ·exact Or.inl h
 ·exact Or.inr ⟨b,o,rfl,Nat.lt_of_lt_of_le y D.size,fun j v hv=>(D.cell (p:=⟨b,o+j,none⟩) y).trans (E j v hv)⟩
theorem Lst.at {w:World} {a:Option Addr} {n c:Nat} {xs:List Value} (h:Lst w (.slice a n c) xs) (y:0<n):n=xs.length/\∃b o,a=some ⟨b,o,none⟩/\b<w.heap.size/\w.rangeAt b o xs:=by
 obtain⟨D,E,e,h⟩:=h;injection e with e1 e2 e3;subst e1 e2 e3;rcases h with rfl|h
 ·simp at y
 ·exact⟨rfl,h⟩
def bl (l:List Bool):List Value:=l.map Value.bool
end Go.Proofs.YtjlgejennghhlaaGreatDoor.Dk
