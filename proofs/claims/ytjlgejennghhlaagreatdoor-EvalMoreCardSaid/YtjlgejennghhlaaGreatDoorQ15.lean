import Derived.Deep.AppendLies
import Derived.Deep.RegionHeld3
import Derived.Deep.RegionLaw
import Derived.Deep.Cut
import Derived.Deep.DeepCutAuto
import Derived.Test.YtjlgejennghhlaaGreatDoorQ01
import Derived.Test.YtjlgejennghhlaaGreatDoorQ14
set_option linter.unusedSimpArgs false
set_option linter.unusedVariables false
set_option linter.unusedSectionVars false
set_option maxRecDepth 1000000
set_option maxHeartbeats 16000000
namespace Go.Proofs.YtjlgejennghhlaaGreatDoor.Fw
open Go.RowKit
theorem Tryz.infoCol:(Tryz.prog.info? 64).map (fun i=>(i.zero,i.size,i.bytes))=some (some (.agg #[.string ⟨#[]⟩,.int .i64 0]),2,24):=by kernel_rfl
theorem Rs.ok {α:Type} {a:α} {ts':List Tk} {enc:α->Value->World->Prop} {e:Ending} {B:Nat} {w':World} {R:Nat} (h:Rs (.ok (a,ts')) enc e B w' R):∃v,e=.returned v/\enc a v w'/\RD w' R ts':=by
 rcases h with ⟨I,H,v,y,he,D,F⟩|⟨er,y,-⟩
 ·simp only[Except.ok.injEq,Prod.mk.injEq] at y;obtain⟨rfl,rfl⟩:=y;exact⟨v,he,D,F⟩
 ·cases y
theorem Rs.err {α:Type} {er:Int×Nat} {enc:α->Value->World->Prop} {e:Ending} {B:Nat} {w':World} {R:Nat} (h:Rs (.error er:PE α) enc e B w' R):Thr e w' B er:=by
 rcases h with ⟨I,F,v,y,-⟩|⟨H,y,D⟩
 ·cases y
 ·simp only[Except.error.injEq] at y;subst y;exact D
theorem Box.grown {w w':World} {k:Nat} {D:List Value} {row:Option Nat} (h:Box w k D) (F:w.grownBy w' row) (y:row≠some k):Box w' k D:=h.block (F.block k h.lt (fun e=>y e.symm))
theorem RD.drew {w:World} {R:Nat} {ts:List Tk} (h:RD w R ts):RD w.drew R ts:=h.below (Below.refl _ _).drew
theorem But.drew {R:Nat} {w w':World} (h:But R w w'):But R w w'.drew:=h.then (But.of (Below.refl _ _).drew)
theorem Qb9 (w:World) (l:List Value) (t:TypeId) (H:Nat) (D:w.heap.size=H):∀j u,l[j]? =some u->(w.alloc (.cells l.toArray t)).cell? ((⟨H,0,none⟩:Addr).add j)=some u:=by
 intro j u h;have y:=Box.new w l t H D.symm;have:=y.cell j h;rw[show((⟨H,0,none⟩:Addr).add j)=⟨H,j,none⟩ by simp only[Addr.add,Nat.zero_add];split<;>simp_all];exact this
theorem Qdr {ε α β γ:Type} (r:Except ε α) (f:α->Except ε β) (g:β->Except ε γ):(r.bind f).bind g=r.bind fun x=>(f x).bind g:=by cases r<;>rfl
theorem QkJ {ts D:List Tk} {c:By×Int} (h:Qbe ts=.ok (c,D)):D=ts.tail.tail:=by
 unfold Qbe at h
 cases hn:Qbd ts with
 |error e=>rw[hn] at h;cases h
 |ok x=>
  obtain⟨a,F⟩:=x;have y:=QhZ hn;rw[hn] at h;simp only[Except.bind] at h;split at h
  ·simp only[Except.ok.injEq,Prod.mk.injEq] at h;rw[<-h.2,y]
  ·split at h
   ·simp only[Except.ok.injEq,Prod.mk.injEq] at h;rw[<-h.2,y]
   ·cases h
def Qlj (l:List (By×Int)):List Value:=l.flatMap fun c=>[.string (ba c.1),.int .i64 c.2]
theorem Qoa (l:List (By×Int)) (a:By×Int):Qlj (l++[a])=Qlj l++[.string (ba a.1),.int .i64 a.2]:=by simp[Qlj]
def Qet (B:Nat) (l:List (By×Int)) (v:Value) (w':World):Prop:=w'.ownsRow B 64 2 v l.length (Qlj l)
def Qrg (B:Nat):FIn->Value->World->Prop:=fun a v w'=>∃vc,v=.agg #[.int .i64 (a.at_:Nat),.string (ba a.name),vc]/\Qet B a.cols vc w'
theorem QgC (R:Nat) (ts:List Tk) (w:World) (h:RD w R ts):Calls Tryz.prog 80 #[.pointer (some ⟨R,0,none⟩)] w fun e w'=>Rs (Qc0 ts) (Qrg w.heap.size) e w.heap.size w' R/\But R w w':=by
 obtain⟨i0,hi,br,bH,bz⟩:=info_parts Tryz.infoCol;have hR:=h.lt;have H0:=Hk h;have B0:=Hk (But.refl R w);have E0:=Hk (Qc0.eq_1 ts);clear h;go_enter Tryz.func80,Tryz.ntmps80;have H1:=Hk (H0.out.below (Qaa _ (.cells #[.int .i64 0,.string ⟨#[]⟩,.slice none 0 0] 57)));have B2:=Hk (B0.out.box (.cells #[.int .i64 0,.string ⟨#[]⟩,.slice none 0 0] 57));have X3:=Hk (Box.new w [.int .i64 0,.string ⟨#[]⟩,.slice none 0 0] 57 _ rfl);clear H0 B0;go_wp2_with (go_at_call 111;fail);refine(QaK wIn R ts _ H1.out (by decide)).mono ?_;rintro e H ⟨⟨a1,cd,v,D,rfl,hv,y⟩|⟨er,D,aa⟩,aI⟩
 rotate_left
 ·obtain⟨b',rfl,t0,t1,tB,tl⟩:=aa;have HP:=Hk (Qaf E0.out D);clear D;go_wp2;exact⟨rfl,Or.inr ⟨_,HP.out,b',rfl,t0,t1,Nat.le_trans B2.out.size tB,tl⟩,B2.out.then aI⟩
 subst hv;have he:=bind_ok E0.out D
 dsimp only at he
 have E4:=Hk he;clear he D;have H5:=Hk y;have B6:=Hk (B2.out.then aI);have X7:=Hk (X3.out.but aI (by omega));have q8:=X7.out.lt;have b7:=aI.size
 try simp only[World.size_alloc,Qac] at b7
 clear H1 B2 X3 E0 y aI;have bC:=Hk (H5.out.below (Qaa _ (.cells #[.int .i64 (a1:Nat),.string ⟨#[]⟩,.slice none 0 0] 57)));have aR:=Hk (B6.out.box (.cells #[.int .i64 (a1:Nat),.string ⟨#[]⟩,.slice none 0 0] 57));have bw:=Hk (X7.out.below (Qaa _ (.cells #[.int .i64 (a1:Nat),.string ⟨#[]⟩,.slice none 0 0] 57)));have bu:=Hk (Box.new H [.int .i64 (a1:Nat),.string ⟨#[]⟩,.slice none 0 0] 57 _ rfl);clear H5 B6 X7;go_wp2_with (go_at_call 112;fail);refine(Qav R cd _ bC.out).mono ?_;rintro e w2 ⟨⟨a2,ce,v,D,rfl,hv,y⟩|⟨er,D,aa⟩,ax⟩
 rotate_left
 ·obtain⟨b',rfl,t0,t1,tB,tl⟩:=aa;have HP:=Hk (Qaf E4.out D);clear D;go_wp2;exact⟨rfl,Or.inr ⟨_,HP.out,b',rfl,t0,t1,Nat.le_trans aR.out.size tB,tl⟩,aR.out.then ax⟩
 unfold encS at hv;subst hv;have he:=bind_ok E4.out D
 dsimp only at he
 have aV:=Hk he;clear he D;have bq:=Hk y;have bD:=Hk (aR.out.then ax);have a0:=Hk (bw.out.but ax (by omega));have cX:=a0.out.lt;have aw:=Hk (bu.out.but ax (by omega));have cT:=aw.out.lt;have bK:=ax.size
 try simp only[World.size_alloc,Qac] at bK
 clear bC aR bw bu E4 y ax;have cw:=aw.out.cell 1 rfl;have cG:=aw.out.fz 1;have cC:=aw.out.lt;have bx:=Hk (bq.out.set (k:=H.heap.size) (i:=1) (v:=.string (ba a2)) (by omega));have aP:=Hk (bD.out.put (k:=H.heap.size) (i:=1) (by omega) (.string (ba a2)));have bt:=Hk (a0.out.other (k':=H.heap.size) 1 (.string (ba a2)) (by omega));have bp:Hid (Box (w2.setCell ⟨H.heap.size,1,none⟩ (.string (ba a2))) H.heap.size [.int .i64 (a1:Nat),.string (ba a2),.slice none 0 0]):=Hk (aw.out.set 1 (.string (ba a2)));clear bq bD a0 aw;go_wp2_with (go_at_call 111;fail);refine(QaK [58] R ce _ bx.out (by decide)).mono ?_;rintro e w3 ⟨⟨a3,aL,v,D,rfl,hv,y⟩|⟨er,D,aa⟩,ay⟩
 rotate_left
 ·obtain⟨b',rfl,t0,t1,tB,tl⟩:=aa;have HP:=Hk (Qaf aV.out D);clear D;go_wp2;exact⟨rfl,Or.inr ⟨_,HP.out,b',rfl,t0,t1,Nat.le_trans aP.out.size tB,tl⟩,aP.out.then ay⟩
 subst hv;have he:=bind_ok aV.out D
 dsimp only at he
 have bg:=Hk he;clear he D;have bf:=Hk y;have aN:=Hk (aP.out.then ay);have bh:=Hk (bt.out.but ay (by omega));have c8:=bh.out.lt;have aq:=Hk (bp.out.but ay (by omega));have cV:=aq.out.lt;have bQ:=ay.size
 try simp only[World.size_alloc,Qac] at bQ
 clear bx aP bt bp aV y ay;have O0:Hid (w3.ownsRow (H.heap.size+1) 64 2 (.slice none 0 0) 0 []):=Hk (World.ownsRow_nil _ _ _ _);have cv:=aq.out.cell 2 rfl;have cI:=aq.out.fz 2;have cz:=aq.out.lt;go_wp2_with fail
 go_cut [3] (fun p wx=>p=.pointer (some ⟨H.heap.size,0,none⟩)/\∃(a:By×Int) (tn:List Tk) (vn:Value),Qbe aL=.ok (a,tn)/\RD wx R tn/\But R w wx/\Box wx w.heap.size [.int .i64 0,.string ⟨#[]⟩,.slice none 0 0]/\Box wx H.heap.size [.int .i64 (a1:Nat),.string (ba a2),vn]/\wx.ownsRow (H.heap.size+1) 64 2 vn (0+1) (Qlj [a]))
 case first=>
  cases I:Qbe aL with
  |error er=>
   have HP:=Hk (Qaf bg.out I);have HC:=Hk (QcU R aL _ bf.out.drew);rw[I] at HC;refine wp_region_held_drew (S:=fun V=>V.cell? ⟨H.heap.size,2,none⟩=some (.slice none 0 0)) (by kernel_rfl) (aq.out.cell 2 rfl) (fun hHeld=>?_);refine wpAnyH_take (i:=0) (v:=.pointer (some ⟨H.heap.size,2,none⟩)) rfl (by kernel_rfl) (by kernel_rfl) (by kernel_rfl) (fun _ _ _ h=>h) (Or.inl ⟨by rfl,?_⟩) (by assumption) ?_
   ·intro V hV;go_simp
   simp only[List.getElem_toArray,List.getElem_cons_zero,List.getElem_cons_succ,Act.put,List.setIfInBounds_toArray,List.set_cons_zero,List.set_cons_succ];refine wpAnyH_take (i:=1) (v:=.slice none 0 0) rfl (by kernel_rfl) (by kernel_rfl) (by kernel_rfl) (fun _ _ _ h=>h) (Or.inl ⟨by rfl,?_⟩) (by assumption) ?_
   ·intro V hV;go_simp
   simp only[List.getElem_toArray,List.getElem_cons_zero,List.getElem_cons_succ,Act.put,List.setIfInBounds_toArray,List.set_cons_zero,List.set_cons_succ];refine wpAnyH_take (i:=2) (v:=.pointer (some ⟨R,0,none⟩)) rfl (by kernel_rfl) (by kernel_rfl) (by kernel_rfl) (fun _ _ _ h=>h) (Or.inl ⟨by rfl,?_⟩) (by assumption) ?_
   ·intro V hV;go_simp
   simp only[List.getElem_toArray,List.getElem_cons_zero,List.getElem_cons_succ,Act.put,List.setIfInBounds_toArray,List.set_cons_zero,List.set_cons_succ];refine wpAnyH_ready (rs:=[3]) (by kernel_rfl) (by simp) ?_;refine AllReadyH.cons rfl (fun K hK=>?_) AllReadyH.nil;go_simp;refine HC.out.mono ?_;rintro e wt ⟨af,aU⟩;obtain⟨b',rfl,t0,t1,tB,tl⟩:=af.err;go_wp2;exact⟨rfl,Or.inr ⟨_,HP.out,b',rfl,t0,t1,Nat.le_trans aN.out.size tB,tl⟩,aN.out.drew.then aU⟩
  |ok z=>
   obtain⟨a,tn⟩:=z;have HC:=Hk (QcU R aL _ bf.out.drew);rw[I] at HC;have aM:=Hk I;clear I;go_region_law (first|(go_simp;go_at_call 113;refine HC.out.mono ?_;rintro e w4 ⟨af,U⟩;obtain⟨ve,rfl,aD,al⟩:=af.ok;unfold Qrf at aD;subst aD;have X4:=(aq.out.block (w':=w3.drew) rfl).but U (by omega);have c4:=X4.cell 2 rfl;have l4:=X4.lt;have a7:=Hk al;have a6:=Hk (aN.out.drew.then U);have N:=Hk ((Qal (O0.out.drew) U (by omega)).alloc (.cells #[.string (ba a.1),.int .i64 a.2] 64));have aZ:=Hk X4;have aW:=Hk ((bh.out.block (w':=w3.drew) rfl).but U (by omega));clear af U al X4)|(refine step_append_lies _ (by rfl) _ _ _ (by rfl) ((H.heap.size+1)) 64 i0 _ 2 24 Tryz.underlying51 hi br bH bz rfl (by omega) (.slice none 0 0) (0) _ (by rfl) N.out ⟨w4.heap.size,0,none⟩ 1 1 [.string (ba a.1),.int .i64 a.2] (by rfl) (by rfl) (Qb9 w4 [.string (ba a.1),.int .i64 a.2] 64 _ rfl) (by simp[Value.oneCell']) (by omega) (by unfold maxLen;omega) (by omega) (by simp;omega) (w4.heap.size+1) (by simp) ?_;intro gg ca w5 ae F aJ bR;have X5:=Hk ((aZ.out.below (Qaa w4 (.cells #[.string (ba a.1),.int .i64 a.2] 64))).grown F (by intro e;have:=N.out.lt _ e;omega));have c5:=X5.out.cell 2 rfl;have f5:=X5.out.fz 2;have l5:=X5.out.lt;have ag:=Hk F;have aY:=Hk ae;clear aJ;clear F ae))
   all_goals go_wp2_with fail
   all_goals go_meet
   all_goals(exact⟨rfl,a,tn,_,aM.out,(((a7.out.below (Qaa _ _)).grown ag.out (fun q hq=>by have:=N.out.lt q hq;omega)).set (by omega)),(((a6.out.box _).grown ag.out (fun q hq=>by have:=N.out.lt q hq;omega)).put (by omega) _),((aW.out.below (Qaa _ _)).grown ag.out (by intro e;have:=N.out.lt _ e;omega)).other _ _ (by omega),X5.out.set _ _,ownsRow_setCell_below (aY.out) (a:=⟨H.heap.size,2,none⟩) (by show H.heap.size<_;omega) _⟩)
 case rest=>
  obtain⟨rfl,a4,bB,bV,I,y,bE,bG,bv,bs⟩:=hcut;have he:=bind_ok bg.out I
  dsimp only at he
  have bA:=Hk he;clear he I;have a8:=Hk y;have aX:=Hk bE;have bb:=Hk bv;have bF:=Hk bs;have be:=Hk bG;have cm:=be.out.lt;have co:=bb.out.lt;have ck:=aX.out.size;clear y bE bv bs bG bf aN bg O0 bh aq;have cr:=a8.out.good.len;go_wp2_with fail
  go_loopg [] bB.length (fun g wr=>∃(acc:List (By×Int)) (J:List Tk) (n:Nat) (v:Value),J.length<=g/\n+J.length<=2000/\Aside (n=acc.length/\RD wr R J/\But R w wr/\Box wr w.heap.size [.int .i64 0,.string ⟨#[]⟩,.slice none 0 0]/\Box wr H.heap.size [.int .i64 (a1:Nat),.string (ba a2),v]/\wr.ownsRow (H.heap.size+1) 64 2 v n (Qlj acc)/\∃f,J.length<=f/\Qc0 ts=(QfO f acc J).bind fun l=>(QbA [59] l.2).bind fun e=>.ok (⟨a1,a2,l.1⟩,e.2)))
  case atStart=>exact⟨[a4],bB,1,bV,Nat.le_refl _,by omega,rfl,a8.out,aX.out,be.out,bb.out,bF.out,_,Nat.le_refl _,bA.out⟩
  case round=>
   obtain⟨acc,J,n,v,hg,c7,O⟩:=hrel;clear a8 aX be bb bF bA;obtain⟨va,ac,cg⟩:=own_slice O.out.2.2.2.2.2.1;subst cg;have cU:=O.out.2.2.2.1.lt;have cY:=O.out.2.2.2.2.1.lt;obtain⟨f,hf,aK⟩:=O.out.2.2.2.2.2.2;obtain⟨t,r,aE⟩:=O.out.2.1.good.ne;obtain⟨f',rfl⟩:∃f',f=f'+1:=⟨f-1,by rw[aE] at hf;simp at hf;omega⟩;have c6:J.tail.length+1=J.length:=by rw[aE];simp
   have HF:=Hk hf;have aQ:=Hk (Qcs [44] R J wr O.out.2.1 (by simp));clear hf aE t r
   by_cases hm:Qar J=[44]
   ·rw[if_pos hm,show(Qar J==[44])=true by simp[hm]] at aQ;have EL:=Hk (show Qc0 ts=(Qbe J.tail).bind fun x=>(QfO f' (acc++[x.1]) x.2).bind fun l=>(QbA [59] l.2).bind fun e=>.ok (⟨a1,a2,l.1⟩,e.2) by rw[aK,QfO,if_pos hm,Qdr]);clear hm aK;go_wp2_with (go_at_call 114;fail);refine aQ.out.mono ?_;rintro e w9 ⟨rfl,y,hb⟩;have HL:=Hk y;have BL:=Hk (O.out.2.2.1.then hb);have XL:=Hk (O.out.2.2.2.1.but hb (by omega));have YL:=Hk (O.out.2.2.2.2.1.but hb (by omega));have OL:=Hk (Qal O.out.2.2.2.2.2.1 hb (by omega));have b0:=XL.out.lt;have b2:=YL.out.lt;have bi:=y.good.ne;clear y hb;have cp:=YL.out.cell 2 rfl;have ch:=YL.out.fz 2;have ct:=YL.out.lt;go_wp2_with fail
    cases I:Qbe J.tail with
    |error er=>
     have HP:=Hk (Qaf EL.out I);have HC:=Hk (QcU R J.tail _ HL.out.drew);rw[I] at HC;refine wp_region_held_drew (S:=fun V=>V.cell? ⟨H.heap.size,2,none⟩=some (.slice va n ac)) (by kernel_rfl) (YL.out.cell 2 rfl) (fun hHeld=>?_);refine wpAnyH_take (i:=0) (v:=.pointer (some ⟨H.heap.size,2,none⟩)) rfl (by kernel_rfl) (by kernel_rfl) (by kernel_rfl) (fun _ _ _ h=>h) (Or.inl ⟨by rfl,?_⟩) (by assumption) ?_
     ·intro V hV;go_simp
     simp only[List.getElem_toArray,List.getElem_cons_zero,List.getElem_cons_succ,Act.put,List.setIfInBounds_toArray,List.set_cons_zero,List.set_cons_succ];refine wpAnyH_take (i:=1) (v:=.slice va n ac) rfl (by kernel_rfl) (by kernel_rfl) (by kernel_rfl) (fun _ _ _ h=>h) (Or.inl ⟨by rfl,?_⟩) (by assumption) ?_
     ·intro V hV;go_simp
     simp only[List.getElem_toArray,List.getElem_cons_zero,List.getElem_cons_succ,Act.put,List.setIfInBounds_toArray,List.set_cons_zero,List.set_cons_succ];refine wpAnyH_take (i:=2) (v:=.pointer (some ⟨R,0,none⟩)) rfl (by kernel_rfl) (by kernel_rfl) (by kernel_rfl) (fun _ _ _ h=>h) (Or.inl ⟨by rfl,?_⟩) (by assumption) ?_
     ·intro V hV;go_simp
     simp only[List.getElem_toArray,List.getElem_cons_zero,List.getElem_cons_succ,Act.put,List.setIfInBounds_toArray,List.set_cons_zero,List.set_cons_succ];refine wpAnyH_ready (rs:=[3]) (by kernel_rfl) (by simp) ?_;refine AllReadyH.cons rfl (fun K hK=>?_) AllReadyH.nil;go_simp;refine HC.out.mono ?_;rintro e wt ⟨af,aU⟩;obtain⟨b',rfl,t0,t1,tB,tl⟩:=af.err;go_wp2;exact⟨rfl,Or.inr ⟨_,HP.out,b',rfl,t0,t1,Nat.le_trans BL.out.size tB,tl⟩,BL.out.drew.then aU⟩
    |ok z=>
     obtain⟨a,tn⟩:=z;have HC:=Hk (QcU R J.tail _ HL.out.drew);rw[I] at HC;have aM:=Hk I;clear I;have cf:=QkJ aM.out;have EN:=Hk (bind_ok EL.out aM.out);go_region_law (first|(go_simp;go_at_call 113;refine HC.out.mono ?_;rintro e w4 ⟨af,U⟩;obtain⟨ve,rfl,aD,al⟩:=af.ok;unfold Qrf at aD;subst aD;have X4:=(YL.out.block (w':=w9.drew) rfl).but U (by omega);have c4:=X4.cell 2 rfl;have l4:=X4.lt;have a7:=Hk al;have a6:=Hk (BL.out.drew.then U);have N:=Hk ((Qal (OL.out.drew) U (by omega)).alloc (.cells #[.string (ba a.1),.int .i64 a.2] 64));have aZ:=Hk X4;have aW:=Hk ((XL.out.block (w':=w9.drew) rfl).but U (by omega));clear af U al X4)|(refine step_append_lies _ (by rfl) _ _ _ (by rfl) ((H.heap.size+1)) 64 i0 _ 2 24 Tryz.underlying51 hi br bH bz rfl (by omega) (.slice va n ac) (n) _ (by rfl) N.out ⟨w4.heap.size,0,none⟩ 1 1 [.string (ba a.1),.int .i64 a.2] (by rfl) (by rfl) (Qb9 w4 [.string (ba a.1),.int .i64 a.2] 64 _ rfl) (by simp[Value.oneCell']) (by omega) (by unfold maxLen;omega) (by omega) (by simp;omega) (w4.heap.size+1) (by simp) ?_;intro gg ca w5 ae F aJ bR;have X5:=Hk ((aZ.out.below (Qaa w4 (.cells #[.string (ba a.1),.int .i64 a.2] 64))).grown F (by intro e;have:=N.out.lt _ e;omega));have c5:=X5.out.cell 2 rfl;have f5:=X5.out.fz 2;have l5:=X5.out.lt;have ag:=Hk F;have aY:=Hk ae;clear aJ;clear F ae))
     all_goals
      (go_wp2_with fail
       have cx:tn.length+1<=J.tail.length:=by
        rw[cf];obtain⟨t,r,aE⟩:=bi;rw[aE];simp
       go_roundg tn.length
       case measure=>omega
       case rel=>exact⟨acc++[a],tn,n+1,_,Nat.le_refl _,by omega,by simp[O.out.1],(((a7.out.below (Qaa _ _)).grown ag.out (fun q hq=>by have:=N.out.lt q hq;omega)).set (by omega)),(((a6.out.box _).grown ag.out (fun q hq=>by have:=N.out.lt q hq;omega)).put (by omega) _),(((aW.out.below (Qaa _ _)).grown ag.out (by intro e;have:=N.out.lt _ e;omega)).other _ _ (by omega)),(X5.out.set _ _),(ownsRow_setCell_below (by rw[Qoa];exact aY.out) (a:=⟨H.heap.size,2,none⟩) (by show H.heap.size<_;omega) _),f',by have:=HF.out;omega,EN.out⟩)
   ·rw[if_neg hm,show(Qar J==[44])=false by simp[hm]] at aQ;have EL:=Hk (show Qc0 ts=(QbA [59] J).bind fun e=>.ok (⟨a1,a2,acc⟩,e.2) by rw[aK,QfO,if_neg hm];rfl);clear hm aK;go_wp2_with (go_at_call 114;fail);refine aQ.out.mono ?_;rintro e w9 ⟨rfl,y,hb⟩;have HL:=Hk y;have BL:=Hk (O.out.2.2.1.then hb);have XL:=Hk (O.out.2.2.2.1.but hb (by omega));have YL:=Hk (O.out.2.2.2.2.1.but hb (by omega));have OL:=Hk (Qal O.out.2.2.2.2.2.1 hb (by omega));have b0:=XL.out.lt;have b2:=YL.out.lt;have b6:=Hk O.out.1;clear y hb O;go_wp2_with (go_at_call 111;fail);refine(QaK [59] R J _ HL.out (by decide)).mono ?_;rintro e cW ⟨⟨a5,cN,v,D,rfl,hv,y⟩|⟨er,D,aa⟩,Z⟩
    rotate_left
    ·obtain⟨b',rfl,t0,t1,tB,tl⟩:=aa;have HP:=Hk (Qaf EL.out D);clear D;go_wp2;exact⟨rfl,Or.inr ⟨_,HP.out,b',rfl,t0,t1,Nat.le_trans BL.out.size tB,tl⟩,BL.out.then Z⟩
    subst hv;have he:=bind_ok EL.out D
    dsimp only at he
    have bI:=Hk he;clear he D;have bT:=Hk y;have bS:=Hk (BL.out.then Z);have M:=Hk (XL.out.but Z (by omega));have cE:=M.out.lt;have ak:=Hk (YL.out.but Z (by omega));have cF:=ak.out.lt;have bL:=Hk (Qal OL.out Z (by omega));have bj:=Z.size
    try simp only[World.size_alloc,Qac] at bj
    clear HL BL XL YL OL EL y Z;have cj:=ak.out.cell 0 rfl;have ci:=ak.out.cell 1 rfl;have cn:=ak.out.cell 2 rfl;have cq:=ak.out.lt;have x0:=M.out.cell 0 rfl;have y0:=M.out.fz 0;have x1:=M.out.cell 1 rfl;have y1:=M.out.fz 1;have x2:=M.out.cell 2 rfl;have y2:=M.out.fz 2;have cZ:=M.out.lt;have b4:=Hk (((bT.out.set (i:=0) (v:=.int .i64 (a1:Nat)) hR).set (i:=1) (v:=.string (ba a2)) hR).set (i:=2) (v:=.slice va n ac) hR);have b1:=Hk (((bS.out.put (Nat.le_refl _) (.int .i64 (a1:Nat)) (i:=0)).put (Nat.le_refl _) (.string (ba a2)) (i:=1)).put (Nat.le_refl _) (.slice va n ac) (i:=2));have aO:=Hk (((M.out.set 0 (.int .i64 (a1:Nat))).set 1 (.string (ba a2))).set 2 (.slice va n ac));have z0:=aO.out.cell 0 rfl;have z1:=aO.out.cell 1 rfl;have z2:=aO.out.cell 2 rfl;clear aO;go_wp2;refine bodyPost_ret (v:=.agg #[.int .i64 (a1:Nat),.string (ba a2),.slice va n ac]) (by simp[results,Tryz.results80,go_sem,z0,z1,z2]) rfl ?_;exact⟨Or.inl ⟨_,_,_,bI.out,rfl,⟨.slice va n ac,rfl,(show Qet w.heap.size acc (.slice va n ac) _ from by unfold Qet;rw[<-b6.out];exact own_mono (by omega) (ownsRow_setCell_below (ownsRow_setCell_below (ownsRow_setCell_below bL.out (a:=⟨w.heap.size,0,none⟩) (by show w.heap.size<_;omega) _) (a:=⟨w.heap.size,1,none⟩) (by show w.heap.size<_;omega) _) (a:=⟨w.heap.size,2,none⟩) (by show w.heap.size<_;omega) _))⟩,b4.out⟩,b1.out⟩
end Go.Proofs.YtjlgejennghhlaaGreatDoor.Fw
