import Derived.Deep.AppendLies
import Derived.Deep.RegionHeld3
import Derived.Deep.RegionLaw
import Derived.Deep.Cut
import Derived.Deep.DeepCutAuto
import Derived.Test.YtjlgejennghhlaaGreatDoorR01
import Derived.Test.YtjlgejennghhlaaGreatDoorR21
set_option linter.unusedSimpArgs false
set_option linter.unusedVariables false
set_option linter.unusedSectionVars false
set_option maxRecDepth 1000000
set_option maxHeartbeats 16000000
namespace Go.Proofs.YtjlgejennghhlaaGreatDoor.Fw
open Go.RowKit
theorem Tryz.infoCol:(Tryz.prog.info? 64).map (fun i=>(i.zero,i.size,i.bytes))=some (some (.agg #[.string ⟨#[]⟩,.int .i64 0]),2,24):=by kernel_rfl
theorem Rs.ok {α:Type} {a:α} {ts':List Tk} {enc:α->Value->World->Prop} {e:Ending} {B:Nat} {w':World} {R:Nat} (h:Rs (.ok (a,ts')) enc e B w' R):∃v,e=.returned v/\enc a v w'/\RD w' R ts':=by
 rcases h with ⟨H,F,v,y,he,D,E⟩|⟨er,y,-⟩
 ·simp only[Except.ok.injEq,Prod.mk.injEq] at y;obtain⟨rfl,rfl⟩:=y;exact⟨v,he,D,E⟩
 ·cases y
theorem Rs.err {α:Type} {er:Int×Nat} {enc:α->Value->World->Prop} {e:Ending} {B:Nat} {w':World} {R:Nat} (h:Rs (.error er:PE α) enc e B w' R):Thr e w' B er:=by
 rcases h with ⟨H,E,v,y,-⟩|⟨F,y,D⟩
 ·cases y
 ·simp only[Except.error.injEq] at y;subst y;exact D
theorem Box.grown {w w':World} {k:Nat} {D:List Value} {row:Option Nat} (h:Box w k D) (E:w.grownBy w' row) (y:row≠some k):Box w' k D:=h.block (E.block k h.lt (fun e=>y e.symm))
theorem RD.drew {w:World} {R:Nat} {ts:List Tk} (h:RD w R ts):RD w.drew R ts:=h.below (Below.refl _ _).drew
theorem But.drew {R:Nat} {w w':World} (h:But R w w'):But R w w'.drew:=h.then (But.of (Below.refl _ _).drew)
theorem Qcb (w:World) (l:List Value) (t:TypeId) (H:Nat) (D:w.heap.size=H):∀j u,l[j]? =some u->(w.alloc (.cells l.toArray t)).cell? ((⟨H,0,none⟩:Addr).add j)=some u:=by
 intro j u h;have y:=Box.new w l t H D.symm;have:=y.cell j h;rw[show((⟨H,0,none⟩:Addr).add j)=⟨H,j,none⟩ by simp only[Addr.add,Nat.zero_add];split<;>simp_all];exact this
theorem Qdv {ε α β γ:Type} (r:Except ε α) (f:α->Except ε β) (g:β->Except ε γ):(r.bind f).bind g=r.bind fun x=>(f x).bind g:=by cases r<;>rfl
theorem QkV {ts D:List Tk} {c:By×Int} (h:Qbf ts=.ok (c,D)):D=ts.tail.tail:=by
 unfold Qbf at h
 cases hn:Qbe ts with
 |error e=>rw[hn] at h;cases h
 |ok x=>
  obtain⟨a,E⟩:=x;have y:=Qh5 hn;rw[hn] at h;simp only[Except.bind] at h;split at h
  ·simp only[Except.ok.injEq,Prod.mk.injEq] at h;rw[<-h.2,y]
  ·split at h
   ·simp only[Except.ok.injEq,Prod.mk.injEq] at h;rw[<-h.2,y]
   ·cases h
def Qlw (l:List (By×Int)):List Value:=l.flatMap fun c=>[.string (ba c.1),.int .i64 c.2]
theorem Qoj (l:List (By×Int)) (a:By×Int):Qlw (l++[a])=Qlw l++[.string (ba a.1),.int .i64 a.2]:=by simp[Qlw]
def Qey (B:Nat) (l:List (By×Int)) (v:Value) (w':World):Prop:=w'.ownsRow B 64 2 v l.length (Qlw l)
def Qrp (B:Nat):FIn->Value->World->Prop:=fun a v w'=>∃vc,v=.agg #[.int .i64 (a.at_:Nat),.string (ba a.name),vc]/\Qey B a.cols vc w'
theorem QgF (R:Nat) (ts:List Tk) (w:World) (h:RD w R ts):Calls Tryz.prog 80 #[.pointer (some ⟨R,0,none⟩)] w fun e w'=>Rs (Qc2 ts) (Qrp w.heap.size) e w.heap.size w' R/\But R w w':=by
 obtain⟨i0,hi,bq,bG,bx⟩:=info_parts Tryz.infoCol;have hR:=h.lt;have H0:=Hk h;have B0:=Hk (But.refl R w);have E0:=Hk (Qc2.eq_1 ts);clear h;go_enter Tryz.func80,Tryz.ntmps80;have H1:=Hk (H0.out.below (Qaa _ (.cells #[.int .i64 0,.string ⟨#[]⟩,.slice none 0 0] 57)));have B2:=Hk (B0.out.box (.cells #[.int .i64 0,.string ⟨#[]⟩,.slice none 0 0] 57));have X3:=Hk (Box.new w [.int .i64 0,.string ⟨#[]⟩,.slice none 0 0] 57 _ rfl);clear H0 B0;go_wp2_with (go_at_call 111;fail);refine(QaK wIn R ts _ H1.out (by decide)).mono ?_;rintro e F ⟨⟨a1,cc,v,D,rfl,hv,y⟩|⟨er,D,Z⟩,aH⟩
 rotate_left
 ·obtain⟨b',rfl,t0,t1,tB,tl⟩:=Z;have HP:=Hk (Qaf E0.out D);clear D;go_wp2;exact⟨rfl,Or.inr ⟨_,HP.out,b',rfl,t0,t1,Nat.le_trans B2.out.size tB,tl⟩,B2.out.then aH⟩
 subst hv;have he:=bind_ok E0.out D
 dsimp only at he
 have E4:=Hk he;clear he D;have H5:=Hk y;have B6:=Hk (B2.out.then aH);have X7:=Hk (X3.out.but aH (by omega));have q8:=X7.out.lt;have b6:=aH.size
 try simp only[World.size_alloc,Qac] at b6
 clear H1 B2 X3 E0 y aH;have bB:=Hk (H5.out.below (Qaa _ (.cells #[.int .i64 (a1:Nat),.string ⟨#[]⟩,.slice none 0 0] 57)));have aQ:=Hk (B6.out.box (.cells #[.int .i64 (a1:Nat),.string ⟨#[]⟩,.slice none 0 0] 57));have bv:=Hk (X7.out.below (Qaa _ (.cells #[.int .i64 (a1:Nat),.string ⟨#[]⟩,.slice none 0 0] 57)));have bt:=Hk (Box.new F [.int .i64 (a1:Nat),.string ⟨#[]⟩,.slice none 0 0] 57 _ rfl);clear H5 B6 X7;go_wp2_with (go_at_call 112;fail);refine(Qav R cc _ bB.out).mono ?_;rintro e w2 ⟨⟨a2,cd,v,D,rfl,hv,y⟩|⟨er,D,Z⟩,aw⟩
 rotate_left
 ·obtain⟨b',rfl,t0,t1,tB,tl⟩:=Z;have HP:=Hk (Qaf E4.out D);clear D;go_wp2;exact⟨rfl,Or.inr ⟨_,HP.out,b',rfl,t0,t1,Nat.le_trans aQ.out.size tB,tl⟩,aQ.out.then aw⟩
 unfold encS at hv;subst hv;have he:=bind_ok E4.out D
 dsimp only at he
 have aU:=Hk he;clear he D;have bp:=Hk y;have bC:=Hk (aQ.out.then aw);have aZ:=Hk (bv.out.but aw (by omega));have cW:=aZ.out.lt;have av:=Hk (bt.out.but aw (by omega));have cS:=av.out.lt;have bJ:=aw.size
 try simp only[World.size_alloc,Qac] at bJ
 clear bB aQ bv bt E4 y aw;have cv:=av.out.cell 1 rfl;have cF:=av.out.fz 1;have cB:=av.out.lt;have bw:=Hk (bp.out.set (k:=F.heap.size) (i:=1) (v:=.string (ba a2)) (by omega));have aO:=Hk (bC.out.put (k:=F.heap.size) (i:=1) (by omega) (.string (ba a2)));have bs:=Hk (aZ.out.other (k':=F.heap.size) 1 (.string (ba a2)) (by omega));have bo:Hid (Box (w2.setCell ⟨F.heap.size,1,none⟩ (.string (ba a2))) F.heap.size [.int .i64 (a1:Nat),.string (ba a2),.slice none 0 0]):=Hk (av.out.set 1 (.string (ba a2)));clear bp bC aZ av;go_wp2_with (go_at_call 111;fail);refine(QaK [58] R cd _ bw.out (by decide)).mono ?_;rintro e w3 ⟨⟨a3,aK,v,D,rfl,hv,y⟩|⟨er,D,Z⟩,ax⟩
 rotate_left
 ·obtain⟨b',rfl,t0,t1,tB,tl⟩:=Z;have HP:=Hk (Qaf aU.out D);clear D;go_wp2;exact⟨rfl,Or.inr ⟨_,HP.out,b',rfl,t0,t1,Nat.le_trans aO.out.size tB,tl⟩,aO.out.then ax⟩
 subst hv;have he:=bind_ok aU.out D
 dsimp only at he
 have bf:=Hk he;clear he D;have be:=Hk y;have aM:=Hk (aO.out.then ax);have bg:=Hk (bs.out.but ax (by omega));have c7:=bg.out.lt;have ap:=Hk (bo.out.but ax (by omega));have cU:=ap.out.lt;have bP:=ax.size
 try simp only[World.size_alloc,Qac] at bP
 clear bw aO bs bo aU y ax;have O0:Hid (w3.ownsRow (F.heap.size+1) 64 2 (.slice none 0 0) 0 []):=Hk (World.ownsRow_nil _ _ _ _);have cu:=ap.out.cell 2 rfl;have cH:=ap.out.fz 2;have cy:=ap.out.lt;go_wp2_with fail
 go_cut [3] (fun p wx=>p=.pointer (some ⟨F.heap.size,0,none⟩)/\∃(a:By×Int) (tn:List Tk) (vn:Value),Qbf aK=.ok (a,tn)/\RD wx R tn/\But R w wx/\Box wx w.heap.size [.int .i64 0,.string ⟨#[]⟩,.slice none 0 0]/\Box wx F.heap.size [.int .i64 (a1:Nat),.string (ba a2),vn]/\wx.ownsRow (F.heap.size+1) 64 2 vn (0+1) (Qlw [a]))
 case first=>
  cases H:Qbf aK with
  |error er=>
   have HP:=Hk (Qaf bf.out H);have HC:=Hk (QcX R aK _ be.out.drew);rw[H] at HC;refine wp_region_held_drew (S:=fun V=>V.cell? ⟨F.heap.size,2,none⟩=some (.slice none 0 0)) (by kernel_rfl) (ap.out.cell 2 rfl) (fun hHeld=>?_);refine wpAnyH_take (i:=0) (v:=.pointer (some ⟨F.heap.size,2,none⟩)) rfl (by kernel_rfl) (by kernel_rfl) (by kernel_rfl) (fun _ _ _ h=>h) (Or.inl ⟨by rfl,?_⟩) (by assumption) ?_
   ·intro V hV;go_simp
   simp only[List.getElem_toArray,List.getElem_cons_zero,List.getElem_cons_succ,Act.put,List.setIfInBounds_toArray,List.set_cons_zero,List.set_cons_succ];refine wpAnyH_take (i:=1) (v:=.slice none 0 0) rfl (by kernel_rfl) (by kernel_rfl) (by kernel_rfl) (fun _ _ _ h=>h) (Or.inl ⟨by rfl,?_⟩) (by assumption) ?_
   ·intro V hV;go_simp
   simp only[List.getElem_toArray,List.getElem_cons_zero,List.getElem_cons_succ,Act.put,List.setIfInBounds_toArray,List.set_cons_zero,List.set_cons_succ];refine wpAnyH_take (i:=2) (v:=.pointer (some ⟨R,0,none⟩)) rfl (by kernel_rfl) (by kernel_rfl) (by kernel_rfl) (fun _ _ _ h=>h) (Or.inl ⟨by rfl,?_⟩) (by assumption) ?_
   ·intro V hV;go_simp
   simp only[List.getElem_toArray,List.getElem_cons_zero,List.getElem_cons_succ,Act.put,List.setIfInBounds_toArray,List.set_cons_zero,List.set_cons_succ];refine wpAnyH_ready (rs:=[3]) (by kernel_rfl) (by simp) ?_;refine AllReadyH.cons rfl (fun K hK=>?_) AllReadyH.nil;go_simp;refine HC.out.mono ?_;rintro e wt ⟨ae,aT⟩;obtain⟨b',rfl,t0,t1,tB,tl⟩:=ae.err;go_wp2;exact⟨rfl,Or.inr ⟨_,HP.out,b',rfl,t0,t1,Nat.le_trans aM.out.size tB,tl⟩,aM.out.drew.then aT⟩
  |ok z=>
   obtain⟨a,tn⟩:=z;have HC:=Hk (QcX R aK _ be.out.drew);rw[H] at HC;have aL:=Hk H;clear H;go_region_law (first|(go_simp;go_at_call 113;refine HC.out.mono ?_;rintro e w4 ⟨ae,O⟩;obtain⟨ve,rfl,aC,ak⟩:=ae.ok;unfold Qro at aC;subst aC;have X4:=(ap.out.block (w':=w3.drew) rfl).but O (by omega);have c4:=X4.cell 2 rfl;have l4:=X4.lt;have a6:=Hk ak;have a0:=Hk (aM.out.drew.then O);have M:=Hk ((Qam (O0.out.drew) O (by omega)).alloc (.cells #[.string (ba a.1),.int .i64 a.2] 64));have aY:=Hk X4;have aV:=Hk ((bg.out.block (w':=w3.drew) rfl).but O (by omega));clear ae O ak X4)|(refine step_append_lies _ (by rfl) _ _ _ (by rfl) ((F.heap.size+1)) 64 i0 _ 2 24 Tryz.underlying51 hi bq bG bx rfl (by omega) (.slice none 0 0) (0) _ (by rfl) M.out ⟨w4.heap.size,0,none⟩ 1 1 [.string (ba a.1),.int .i64 a.2] (by rfl) (by rfl) (Qcb w4 [.string (ba a.1),.int .i64 a.2] 64 _ rfl) (by simp[Value.oneCell']) (by omega) (by unfold maxLen;omega) (by omega) (by simp;omega) (w4.heap.size+1) (by simp) ?_;intro gg b9 w5 ad E aI bQ;have X5:=Hk ((aY.out.below (Qaa w4 (.cells #[.string (ba a.1),.int .i64 a.2] 64))).grown E (by intro e;have:=M.out.lt _ e;omega));have c5:=X5.out.cell 2 rfl;have f5:=X5.out.fz 2;have l5:=X5.out.lt;have af:=Hk E;have aX:=Hk ad;clear aI;clear E ad))
   all_goals go_wp2_with fail
   all_goals go_meet
   all_goals(exact⟨rfl,a,tn,_,aL.out,(((a6.out.below (Qaa _ _)).grown af.out (fun q hq=>by have:=M.out.lt q hq;omega)).set (by omega)),(((a0.out.box _).grown af.out (fun q hq=>by have:=M.out.lt q hq;omega)).put (by omega) _),((aV.out.below (Qaa _ _)).grown af.out (by intro e;have:=M.out.lt _ e;omega)).other _ _ (by omega),X5.out.set _ _,ownsRow_setCell_below (aX.out) (a:=⟨F.heap.size,2,none⟩) (by show F.heap.size<_;omega) _⟩)
 case rest=>
  obtain⟨rfl,a4,bA,bU,H,y,bD,bF,bu,br⟩:=hcut;have he:=bind_ok bf.out H
  dsimp only at he
  have bz:=Hk he;clear he H;have a7:=Hk y;have aW:=Hk bD;have a9:=Hk bu;have bE:=Hk br;have bd:=Hk bF;have ck:=bd.out.lt;have cn:=a9.out.lt;have cj:=aW.out.size;clear y bD bu br bF be aM bf O0 bg ap;have cq:=a7.out.good.len;go_wp2_with fail
  go_loopg [] bA.length (fun g wr=>∃(acc:List (By×Int)) (I:List Tk) (n:Nat) (v:Value),I.length<=g/\n+I.length<=2000/\Aside (n=acc.length/\RD wr R I/\But R w wr/\Box wr w.heap.size [.int .i64 0,.string ⟨#[]⟩,.slice none 0 0]/\Box wr F.heap.size [.int .i64 (a1:Nat),.string (ba a2),v]/\wr.ownsRow (F.heap.size+1) 64 2 v n (Qlw acc)/\∃f,I.length<=f/\Qc2 ts=(QfR f acc I).bind fun l=>(QbD [59] l.2).bind fun e=>.ok (⟨a1,a2,l.1⟩,e.2)))
  case atStart=>exact⟨[a4],bA,1,bU,Nat.le_refl _,by omega,rfl,a7.out,aW.out,bd.out,a9.out,bE.out,_,Nat.le_refl _,bz.out⟩
  case round=>
   obtain⟨acc,I,n,v,hg,c6,N⟩:=hrel;clear a7 aW bd a9 bE bz;obtain⟨va,ab,cf⟩:=own_slice N.out.2.2.2.2.2.1;subst cf;have cT:=N.out.2.2.2.1.lt;have cX:=N.out.2.2.2.2.1.lt;obtain⟨f,hf,aJ⟩:=N.out.2.2.2.2.2.2;obtain⟨t,r,aD⟩:=N.out.2.1.good.ne;obtain⟨f',rfl⟩:∃f',f=f'+1:=⟨f-1,by rw[aD] at hf;simp at hf;omega⟩;have cZ:I.tail.length+1=I.length:=by rw[aD];simp
   have HF:=Hk hf;have aP:=Hk (Qcu [44] R I wr N.out.2.1 (by simp));clear hf aD t r
   by_cases hm:Qar I=[44]
   ·rw[if_pos hm,show(Qar I==[44])=true by simp[hm]] at aP;have EL:=Hk (show Qc2 ts=(Qbf I.tail).bind fun x=>(QfR f' (acc++[x.1]) x.2).bind fun l=>(QbD [59] l.2).bind fun e=>.ok (⟨a1,a2,l.1⟩,e.2) by rw[aJ,QfR,if_pos hm,Qdv]);clear hm aJ;go_wp2_with (go_at_call 114;fail);refine aP.out.mono ?_;rintro e w9 ⟨rfl,y,hb⟩;have HL:=Hk y;have BL:=Hk (N.out.2.2.1.then hb);have XL:=Hk (N.out.2.2.2.1.but hb (by omega));have YL:=Hk (N.out.2.2.2.2.1.but hb (by omega));have OL:=Hk (Qam N.out.2.2.2.2.2.1 hb (by omega));have bZ:=XL.out.lt;have b1:=YL.out.lt;have bh:=y.good.ne;clear y hb;have co:=YL.out.cell 2 rfl;have cg:=YL.out.fz 2;have cr:=YL.out.lt;go_wp2_with fail
    cases H:Qbf I.tail with
    |error er=>
     have HP:=Hk (Qaf EL.out H);have HC:=Hk (QcX R I.tail _ HL.out.drew);rw[H] at HC;refine wp_region_held_drew (S:=fun V=>V.cell? ⟨F.heap.size,2,none⟩=some (.slice va n ab)) (by kernel_rfl) (YL.out.cell 2 rfl) (fun hHeld=>?_);refine wpAnyH_take (i:=0) (v:=.pointer (some ⟨F.heap.size,2,none⟩)) rfl (by kernel_rfl) (by kernel_rfl) (by kernel_rfl) (fun _ _ _ h=>h) (Or.inl ⟨by rfl,?_⟩) (by assumption) ?_
     ·intro V hV;go_simp
     simp only[List.getElem_toArray,List.getElem_cons_zero,List.getElem_cons_succ,Act.put,List.setIfInBounds_toArray,List.set_cons_zero,List.set_cons_succ];refine wpAnyH_take (i:=1) (v:=.slice va n ab) rfl (by kernel_rfl) (by kernel_rfl) (by kernel_rfl) (fun _ _ _ h=>h) (Or.inl ⟨by rfl,?_⟩) (by assumption) ?_
     ·intro V hV;go_simp
     simp only[List.getElem_toArray,List.getElem_cons_zero,List.getElem_cons_succ,Act.put,List.setIfInBounds_toArray,List.set_cons_zero,List.set_cons_succ];refine wpAnyH_take (i:=2) (v:=.pointer (some ⟨R,0,none⟩)) rfl (by kernel_rfl) (by kernel_rfl) (by kernel_rfl) (fun _ _ _ h=>h) (Or.inl ⟨by rfl,?_⟩) (by assumption) ?_
     ·intro V hV;go_simp
     simp only[List.getElem_toArray,List.getElem_cons_zero,List.getElem_cons_succ,Act.put,List.setIfInBounds_toArray,List.set_cons_zero,List.set_cons_succ];refine wpAnyH_ready (rs:=[3]) (by kernel_rfl) (by simp) ?_;refine AllReadyH.cons rfl (fun K hK=>?_) AllReadyH.nil;go_simp;refine HC.out.mono ?_;rintro e wt ⟨ae,aT⟩;obtain⟨b',rfl,t0,t1,tB,tl⟩:=ae.err;go_wp2;exact⟨rfl,Or.inr ⟨_,HP.out,b',rfl,t0,t1,Nat.le_trans BL.out.size tB,tl⟩,BL.out.drew.then aT⟩
    |ok z=>
     obtain⟨a,tn⟩:=z;have HC:=Hk (QcX R I.tail _ HL.out.drew);rw[H] at HC;have aL:=Hk H;clear H;have ce:=QkV aL.out;have EN:=Hk (bind_ok EL.out aL.out);go_region_law (first|(go_simp;go_at_call 113;refine HC.out.mono ?_;rintro e w4 ⟨ae,O⟩;obtain⟨ve,rfl,aC,ak⟩:=ae.ok;unfold Qro at aC;subst aC;have X4:=(YL.out.block (w':=w9.drew) rfl).but O (by omega);have c4:=X4.cell 2 rfl;have l4:=X4.lt;have a6:=Hk ak;have a0:=Hk (BL.out.drew.then O);have M:=Hk ((Qam (OL.out.drew) O (by omega)).alloc (.cells #[.string (ba a.1),.int .i64 a.2] 64));have aY:=Hk X4;have aV:=Hk ((XL.out.block (w':=w9.drew) rfl).but O (by omega));clear ae O ak X4)|(refine step_append_lies _ (by rfl) _ _ _ (by rfl) ((F.heap.size+1)) 64 i0 _ 2 24 Tryz.underlying51 hi bq bG bx rfl (by omega) (.slice va n ab) (n) _ (by rfl) M.out ⟨w4.heap.size,0,none⟩ 1 1 [.string (ba a.1),.int .i64 a.2] (by rfl) (by rfl) (Qcb w4 [.string (ba a.1),.int .i64 a.2] 64 _ rfl) (by simp[Value.oneCell']) (by omega) (by unfold maxLen;omega) (by omega) (by simp;omega) (w4.heap.size+1) (by simp) ?_;intro gg b9 w5 ad E aI bQ;have X5:=Hk ((aY.out.below (Qaa w4 (.cells #[.string (ba a.1),.int .i64 a.2] 64))).grown E (by intro e;have:=M.out.lt _ e;omega));have c5:=X5.out.cell 2 rfl;have f5:=X5.out.fz 2;have l5:=X5.out.lt;have af:=Hk E;have aX:=Hk ad;clear aI;clear E ad))
     all_goals
      (go_wp2_with fail
       have cw:tn.length+1<=I.tail.length:=by
        rw[ce];obtain⟨t,r,aD⟩:=bh;rw[aD];simp
       go_roundg tn.length
       case measure=>omega
       case rel=>exact⟨acc++[a],tn,n+1,_,Nat.le_refl _,by omega,by simp[N.out.1],(((a6.out.below (Qaa _ _)).grown af.out (fun q hq=>by have:=M.out.lt q hq;omega)).set (by omega)),(((a0.out.box _).grown af.out (fun q hq=>by have:=M.out.lt q hq;omega)).put (by omega) _),(((aV.out.below (Qaa _ _)).grown af.out (by intro e;have:=M.out.lt _ e;omega)).other _ _ (by omega)),(X5.out.set _ _),(ownsRow_setCell_below (by rw[Qoj];exact aX.out) (a:=⟨F.heap.size,2,none⟩) (by show F.heap.size<_;omega) _),f',by have:=HF.out;omega,EN.out⟩)
   ·rw[if_neg hm,show(Qar I==[44])=false by simp[hm]] at aP;have EL:=Hk (show Qc2 ts=(QbD [59] I).bind fun e=>.ok (⟨a1,a2,acc⟩,e.2) by rw[aJ,QfR,if_neg hm];rfl);clear hm aJ;go_wp2_with (go_at_call 114;fail);refine aP.out.mono ?_;rintro e w9 ⟨rfl,y,hb⟩;have HL:=Hk y;have BL:=Hk (N.out.2.2.1.then hb);have XL:=Hk (N.out.2.2.2.1.but hb (by omega));have YL:=Hk (N.out.2.2.2.2.1.but hb (by omega));have OL:=Hk (Qam N.out.2.2.2.2.2.1 hb (by omega));have bZ:=XL.out.lt;have b1:=YL.out.lt;have b5:=Hk N.out.1;clear y hb N;go_wp2_with (go_at_call 111;fail);refine(QaK [59] R I _ HL.out (by decide)).mono ?_;rintro e cV ⟨⟨a5,cM,v,D,rfl,hv,y⟩|⟨er,D,Z⟩,U⟩
    rotate_left
    ·obtain⟨b',rfl,t0,t1,tB,tl⟩:=Z;have HP:=Hk (Qaf EL.out D);clear D;go_wp2;exact⟨rfl,Or.inr ⟨_,HP.out,b',rfl,t0,t1,Nat.le_trans BL.out.size tB,tl⟩,BL.out.then U⟩
    subst hv;have he:=bind_ok EL.out D
    dsimp only at he
    have bH:=Hk he;clear he D;have bS:=Hk y;have bR:=Hk (BL.out.then U);have J:=Hk (XL.out.but U (by omega));have cD:=J.out.lt;have aj:=Hk (YL.out.but U (by omega));have cE:=aj.out.lt;have bK:=Hk (Qam OL.out U (by omega));have bi:=U.size
    try simp only[World.size_alloc,Qac] at bi
    clear HL BL XL YL OL EL y U;have ci:=aj.out.cell 0 rfl;have ch:=aj.out.cell 1 rfl;have cm:=aj.out.cell 2 rfl;have cp:=aj.out.lt;have x0:=J.out.cell 0 rfl;have y0:=J.out.fz 0;have x1:=J.out.cell 1 rfl;have y1:=J.out.fz 1;have x2:=J.out.cell 2 rfl;have y2:=J.out.fz 2;have cY:=J.out.lt;have b3:=Hk (((bS.out.set (i:=0) (v:=.int .i64 (a1:Nat)) hR).set (i:=1) (v:=.string (ba a2)) hR).set (i:=2) (v:=.slice va n ab) hR);have b0:=Hk (((bR.out.put (Nat.le_refl _) (.int .i64 (a1:Nat)) (i:=0)).put (Nat.le_refl _) (.string (ba a2)) (i:=1)).put (Nat.le_refl _) (.slice va n ab) (i:=2));have aN:=Hk (((J.out.set 0 (.int .i64 (a1:Nat))).set 1 (.string (ba a2))).set 2 (.slice va n ab));have z0:=aN.out.cell 0 rfl;have z1:=aN.out.cell 1 rfl;have z2:=aN.out.cell 2 rfl;clear aN;go_wp2;refine bodyPost_ret (v:=.agg #[.int .i64 (a1:Nat),.string (ba a2),.slice va n ab]) (by simp[results,Tryz.results80,go_sem,z0,z1,z2]) rfl ?_;exact⟨Or.inl ⟨_,_,_,bH.out,rfl,⟨.slice va n ab,rfl,(show Qey w.heap.size acc (.slice va n ab) _ from by unfold Qey;rw[<-b5.out];exact own_mono (by omega) (ownsRow_setCell_below (ownsRow_setCell_below (ownsRow_setCell_below bK.out (a:=⟨w.heap.size,0,none⟩) (by show w.heap.size<_;omega) _) (a:=⟨w.heap.size,1,none⟩) (by show w.heap.size<_;omega) _) (a:=⟨w.heap.size,2,none⟩) (by show w.heap.size<_;omega) _))⟩,b3.out⟩,b0.out⟩
end Go.Proofs.YtjlgejennghhlaaGreatDoor.Fw
