import Derived.Test.YtjlgejennghhlaaGreatDoorR01
import Derived.Test.YtjlgejennghhlaaGreatDoorR25
set_option linter.unusedSimpArgs false
set_option linter.unusedVariables false
set_option linter.unusedSectionVars false
set_option maxRecDepth 1000000
set_option maxHeartbeats 16000000
namespace Go.Proofs.YtjlgejennghhlaaGreatDoor.Fw
open Go.RowKit
theorem Qor (at_:Nat) (outs:List By) (retry:Int) (vo:Value) (K R:Nat) (ts:List Tk) (w:World) (h:RD w R ts) (hK:Box w K [.int .i64 (at_:Nat),.int .i64 0,vo,.slice none 0 0,.slice none 0 0,.string ⟨#[]⟩,.string ⟨#[]⟩,.int .i64 0,.int .i64 0,.string ⟨#[]⟩,.string ⟨#[]⟩,.int .i64 0,.int .i64 0,.string ⟨#[]⟩,.int .i64 retry]) (de:R<K) (bL:∀c t,Qci ts=.ok (c,t)->c=7):
 Calls Tryz.prog 117 #[.pointer (some ⟨R,0,none⟩),.pointer (some ⟨K,0,none⟩)] w fun e w'=>Qgh (Qca at_ outs retry ts) vo K e w.heap.size w' R/\But2 R K w w':=by
 obtain⟨i0,hi,bu,bQ,bC⟩:=info_parts Tryz.infoStr;have hR:=h.lt;have dd:=hK.lt;have H0:=Hk h;have B0:=Hk (But2.refl R K w);have X0:=Hk hK;have E0:=Hk (Qca.eq_1 at_ outs retry ts);clear h hK;go_enter Tryz.func117,Tryz.ntmps117;go_wp2_with (go_at_call 154;fail);refine(QbL R ts _ H0.out).mono ?_;rintro e w1 ⟨⟨a1,cq,v,y,rfl,hv,D⟩|⟨er,y,H⟩,aC⟩
 rotate_left
 ·obtain⟨O,rfl,N,U,Z,tl⟩:=H;have HP:=Hk (Qaf E0.out y);clear y;go_wp2;exact⟨rfl,Or.inr ⟨_,HP.out,O,rfl,N,U,Nat.le_trans B0.out.size Z,tl⟩,B0.out.then aC⟩
 unfold encI at hv;subst hv;have ct:=bL _ _ y;subst ct;have he:=bind_ok E0.out y
 dsimp only at he
 have E1:=Hk he;clear he y;have H2:=Hk D;have B3:=Hk (B0.out.then aC);have J:=Hk (X0.out.but aC (by omega));have q5:=J.out.lt;have ce:=aC.size
 try simp only[World.size_alloc,Qac] at ce
 clear H0 B0 X0 E0 D aC;clear bL;have c7:=J.out.cell 1 rfl;have c8:=J.out.fz 1;have da:=J.out.lt;have bM:=Hk (H2.out.set (k:=K) (i:=1) (v:=.int .i64 7) (by omega));have aL:=Hk (B3.out.put (k:=K) (i:=1) (by omega) (.int .i64 7));have bA:Hid (Box (w1.setCell ⟨K,1,none⟩ (.int .i64 7)) K [.int .i64 (at_:Nat),.int .i64 7,vo,.slice none 0 0,.slice none 0 0,.string ⟨#[]⟩,.string ⟨#[]⟩,.int .i64 0,.int .i64 0,.string ⟨#[]⟩,.string ⟨#[]⟩,.int .i64 0,.int .i64 0,.string ⟨#[]⟩,.int .i64 retry]):=Hk (J.out.set 1 (.int .i64 7));clear H2 B3 J;go_wp2_with (go_at_call 112;fail);refine(Qav R cq _ bM.out).mono ?_;rintro e w2 ⟨⟨a2,cr,v,y,rfl,hv,D⟩|⟨er,y,H⟩,aA⟩
 rotate_left
 ·obtain⟨O,rfl,N,U,Z,tl⟩:=H;have HP:=Hk (Qaf E1.out y);clear y;go_wp2;exact⟨rfl,Or.inr ⟨_,HP.out,O,rfl,N,U,Nat.le_trans aL.out.size Z,tl⟩,aL.out.then aA⟩
 unfold encS at hv;subst hv;have he:=bind_ok E1.out y
 dsimp only at he
 have bB:=Hk he;clear he y;have bq:=Hk D;have bO:=Hk (aL.out.then aA);have aj:=Hk (bA.out.but aA (by omega));have dc:=aj.out.lt;have b7:=aA.size
 try simp only[World.size_alloc,Qac] at b7
 clear bM aL bA E1 D aA;have cT:=aj.out.cell 1 rfl;have cC:=aj.out.cell 3 rfl;have cF:=aj.out.fz 3;have cJ:=aj.out.lt;have bs:=Hk (bq.out.set (k:=K) (i:=3) (v:=.slice (some ⟨w2.heap.size,0,none⟩) 1 1) (by omega));have aI:=Hk (bO.out.put (k:=K) (i:=3) (by omega) (.slice (some ⟨w2.heap.size,0,none⟩) 1 1));have bp:Hid (Box (w2.setCell ⟨K,3,none⟩ (.slice (some ⟨w2.heap.size,0,none⟩) 1 1)) K [.int .i64 (at_:Nat),.int .i64 7,vo,.slice (some ⟨w2.heap.size,0,none⟩) 1 1,.slice none 0 0,.string ⟨#[]⟩,.string ⟨#[]⟩,.int .i64 0,.int .i64 0,.string ⟨#[]⟩,.string ⟨#[]⟩,.int .i64 0,.int .i64 0,.string ⟨#[]⟩,.int .i64 retry]):=Hk (aj.out.set 3 (.slice (some ⟨w2.heap.size,0,none⟩) 1 1));clear bq bO aj;have bP:=Hk (bs.out.below (Qaa _ (.cells #[.string (ba a2)] 9)));have aE:=Hk (aI.out.box (.cells #[.string (ba a2)] 9));have bm:=Hk (bp.out.below (Qaa _ (.cells #[.string (ba a2)] 9)));have bU:=Hk (Qbu (w2.setCell ⟨K,3,none⟩ (.slice (some ⟨w2.heap.size,0,none⟩) 1 1)) w.heap.size 9 (Qcl [a2]) 1 w2.heap.size rfl (aI.out.size) (Qac _ _ _).symm);have bb:=aI.out.size;simp only[Qac] at bb;clear bs aI bp;have he:=bB.out;rw[if_neg (by decide),if_neg (by decide),if_neg (by decide),if_neg (by decide),if_pos (by decide)] at he;have a9:=Hk he;clear he bB;go_wp2_with (go_at_call 111;fail);refine(QaK [46] R cr _ bP.out (by decide)).mono ?_;rintro e w3 ⟨⟨a3,cb,v,y,rfl,hv,D⟩|⟨er,y,H⟩,au⟩
 rotate_left
 ·obtain⟨O,rfl,N,U,Z,tl⟩:=H;have HP:=Hk (Qaf a9.out y);clear y;go_wp2;exact⟨rfl,Or.inr ⟨_,HP.out,O,rfl,N,U,Nat.le_trans aE.out.size Z,tl⟩,aE.out.then au⟩
 subst hv;have he:=bind_ok a9.out y
 dsimp only at he
 have aS:=Hk he;clear he y;have bn:=Hk D;have aM:=Hk (aE.out.then au);have bd:=Hk (bm.out.but au (by omega));have c6:=bd.out.lt;have bV:=Hk (Qam bU.out au (by omega));have b0:=au.size
 try simp only[World.size_alloc,Qac] at b0
 clear bP aE bm bU a9 D au;go_wp2_with (go_at_call 112;fail);refine(Qav R cb _ bn.out).mono ?_;rintro e M ⟨⟨a4,cm,v,y,rfl,hv,D⟩|⟨er,y,H⟩,F⟩
 rotate_left
 ·obtain⟨O,rfl,N,U,Z,tl⟩:=H;have HP:=Hk (Qaf aS.out y);clear y;go_wp2;exact⟨rfl,Or.inr ⟨_,HP.out,O,rfl,N,U,Nat.le_trans aM.out.size Z,tl⟩,aM.out.then F⟩
 unfold encS at hv;subst hv;have he:=bind_ok aS.out y
 dsimp only at he
 have bg:=Hk he;clear he y;have bW:=Hk D;have bt:=Hk (aM.out.then F);have ai:=Hk (bd.out.but F (by omega));have c9:=ai.out.lt;have bx:=Hk (Qam bV.out F (by omega));have b2:=F.size
 try simp only[World.size_alloc,Qac] at b2
 clear bn aM bd bV aS D F;have cU:=ai.out.cell 1 rfl;have cX:=ai.out.cell 4 rfl;have cI:=ai.out.fz 4;have cG:=ai.out.lt;have bG:=Hk (bW.out.set (k:=K) (i:=4) (v:=.slice (some ⟨M.heap.size,0,none⟩) 1 1) (by omega));have aH:=Hk (bt.out.put (k:=K) (i:=4) (by omega) (.slice (some ⟨M.heap.size,0,none⟩) 1 1));have bD:Hid (Box (M.setCell ⟨K,4,none⟩ (.slice (some ⟨M.heap.size,0,none⟩) 1 1)) K [.int .i64 (at_:Nat),.int .i64 7,vo,.slice (some ⟨w2.heap.size,0,none⟩) 1 1,.slice (some ⟨M.heap.size,0,none⟩) 1 1,.string ⟨#[]⟩,.string ⟨#[]⟩,.int .i64 0,.int .i64 0,.string ⟨#[]⟩,.string ⟨#[]⟩,.int .i64 0,.int .i64 0,.string ⟨#[]⟩,.int .i64 retry]):=Hk (ai.out.set 4 (.slice (some ⟨M.heap.size,0,none⟩) 1 1));have bH:=Hk (ownsRow_setCell_below bx.out (a:=⟨K,4,none⟩) (by show K<_;omega) (.slice (some ⟨M.heap.size,0,none⟩) 1 1));clear bW bt ai bx;have bI:=Hk (bG.out.below (Qaa _ (.cells #[.string (ba a4)] 9)));have aG:=Hk (aH.out.box (.cells #[.string (ba a4)] 9));have bo:=Hk (bD.out.below (Qaa _ (.cells #[.string (ba a4)] 9)));have bJ:=Hk (Qbu (M.setCell ⟨K,4,none⟩ (.slice (some ⟨M.heap.size,0,none⟩) 1 1)) w.heap.size 9 (Qcl [a4]) 1 M.heap.size rfl (aH.out.size) (Qac _ _ _).symm);have bK:=Hk (bH.out.alloc (.cells #[.string (ba a4)] 9));have bi:=aH.out.size;simp only[Qac] at bi;clear bG aH bD bH;go_wp2_with (go_at_call 111;fail);refine(QaK [44] R cm _ bI.out (by decide)).mono ?_;rintro e w5 ⟨⟨a5,aF,v,y,rfl,hv,D⟩|⟨er,y,H⟩,aq⟩
 rotate_left
 ·obtain⟨O,rfl,N,U,Z,tl⟩:=H;have HP:=Hk (Qaf bg.out y);clear y;go_wp2;exact⟨rfl,Or.inr ⟨_,HP.out,O,rfl,N,U,Nat.le_trans aG.out.size Z,tl⟩,aG.out.then aq⟩
 subst hv;have he:=bind_ok bg.out y
 dsimp only at he
 have aT:=Hk he;clear he y;have aX:=Hk D;have aD:=Hk (aG.out.then aq);have ak:=Hk (bo.out.but aq (by omega));have df:=ak.out.lt;have bE:=Hk (Qam bK.out aq (by omega));have ca:=Hk (Qam bJ.out aq (by omega));have b1:=aq.size
 try simp only[World.size_alloc,Qac] at b1
 clear bI aG bo bK bJ bg D aq;have cw:=ak.out.cell 3 rfl;have cM:=ak.out.fz 3;have cO:=ak.out.lt;go_wp2_with fail
 go_cut [1] (fun p wx=>p=.pointer (some ⟨K,0,none⟩)/\∃(a:By) (tn:List Tk) (vn:Value),Qbe aF=.ok (a,tn)/\RD wx R tn/\But2 R K w wx/\Box wx K [.int .i64 (at_:Nat),.int .i64 7,vo,vn,.slice (some ⟨M.heap.size,0,none⟩) 1 1,.string ⟨#[]⟩,.string ⟨#[]⟩,.int .i64 0,.int .i64 0,.string ⟨#[]⟩,.string ⟨#[]⟩,.int .i64 0,.int .i64 0,.string ⟨#[]⟩,.int .i64 retry]/\wx.ownsRow w.heap.size 9 1 vn (1+1) (Qcl [a2,a])/\wx.ownsRow w.heap.size 9 1 (.slice (some ⟨M.heap.size,0,none⟩) 1 1) 1 (Qcl [a4])/\∃g c,vn=.slice (some ⟨g,0,none⟩) 2 c/\g≠M.heap.size)
 case first=>
  cases I:Qbe aF with
  |error er=>
   have HP:=Hk (Qaf aT.out I);have HC:=Hk (Qav R aF _ aX.out.drew);rw[I] at HC;refine wp_region_held_drew (S:=fun V=>V.cell? ⟨K,3,none⟩=some (.slice (some ⟨w2.heap.size,0,none⟩) 1 1)) (by kernel_rfl) (ak.out.cell 3 rfl) (fun hHeld=>?_);refine wpAnyH_take (i:=0) (v:=.pointer (some ⟨K,0,none⟩)) rfl (by kernel_rfl) (by kernel_rfl) (by kernel_rfl) (fun _ _ _ h=>h) (Or.inl ⟨by rfl,?_⟩) (by assumption) ?_
   ·intro V hV;go_simp
   simp only[List.getElem_toArray,List.getElem_cons_zero,List.getElem_cons_succ,Act.put,List.setIfInBounds_toArray,List.set_cons_zero,List.set_cons_succ];refine wpAnyH_take (i:=1) (v:=.pointer (some ⟨K,0,none⟩)) rfl (by kernel_rfl) (by kernel_rfl) (by kernel_rfl) (fun _ _ _ h=>h) (Or.inl ⟨by rfl,?_⟩) (by assumption) ?_
   ·intro V hV;go_simp
   simp only[List.getElem_toArray,List.getElem_cons_zero,List.getElem_cons_succ,Act.put,List.setIfInBounds_toArray,List.set_cons_zero,List.set_cons_succ];refine wpAnyH_take (i:=2) (v:=.pointer (some ⟨K,0,none⟩)) rfl (by kernel_rfl) (by kernel_rfl) (by kernel_rfl) (fun _ _ _ h=>h) (Or.inl ⟨by rfl,?_⟩) (by assumption) ?_
   ·intro V hV;go_simp
   simp only[List.getElem_toArray,List.getElem_cons_zero,List.getElem_cons_succ,Act.put,List.setIfInBounds_toArray,List.set_cons_zero,List.set_cons_succ];refine wpAnyH_take (i:=3) (v:=.pointer (some ⟨K,3,none⟩)) rfl (by kernel_rfl) (by kernel_rfl) (by kernel_rfl) (fun _ _ _ h=>h) (Or.inl ⟨by rfl,?_⟩) (by assumption) ?_
   ·intro V hV;go_simp
   simp only[List.getElem_toArray,List.getElem_cons_zero,List.getElem_cons_succ,Act.put,List.setIfInBounds_toArray,List.set_cons_zero,List.set_cons_succ];refine wpAnyH_take (i:=4) (v:=.slice (some ⟨w2.heap.size,0,none⟩) 1 1) rfl (by kernel_rfl) (by kernel_rfl) (by kernel_rfl) (fun _ _ _ h=>h) (Or.inl ⟨by rfl,?_⟩) (by assumption) ?_
   ·intro V hV;go_simp
   simp only[List.getElem_toArray,List.getElem_cons_zero,List.getElem_cons_succ,Act.put,List.setIfInBounds_toArray,List.set_cons_zero,List.set_cons_succ];refine wpAnyH_take (i:=5) (v:=.pointer (some ⟨R,0,none⟩)) rfl (by kernel_rfl) (by kernel_rfl) (by kernel_rfl) (fun _ _ _ h=>h) (Or.inl ⟨by rfl,?_⟩) (by assumption) ?_
   ·intro V hV;go_simp
   simp only[List.getElem_toArray,List.getElem_cons_zero,List.getElem_cons_succ,Act.put,List.setIfInBounds_toArray,List.set_cons_zero,List.set_cons_succ];refine wpAnyH_ready (rs:=[6]) (by kernel_rfl) (by simp) ?_;refine AllReadyH.cons rfl (fun K hK=>?_) AllReadyH.nil;go_simp;refine HC.out.mono ?_;rintro e wt ⟨ag,aQ⟩;obtain⟨O,rfl,N,U,Z,tl⟩:=ag.err;go_wp2;exact⟨rfl,Or.inr ⟨_,HP.out,O,rfl,N,U,Nat.le_trans aD.out.size Z,tl⟩,aD.out.drew.then aQ⟩
  |ok z=>
   obtain⟨a,tn⟩:=z;have HC:=Hk (Qav R aF _ aX.out.drew);rw[I] at HC;have aV:=Hk I;clear I;go_region_law (first|(go_simp;go_at_call 112;refine HC.out.mono ?_;rintro e ad ⟨ag,F⟩;obtain⟨ve,rfl,ay,al⟩:=ag.ok;unfold encS at ay;subst ay;have J:=(ak.out.block (w':=w5.drew) rfl).but F (by omega);have c4:=J.cell 3 rfl;have l4:=J.lt;have aY:=Hk al;have az:=Hk (aD.out.drew.then F);have co:=az.out.size;have ac:=Hk ((Qam (bE.out.drew) F (by omega)).alloc (.cells #[.string (ba a)] 9));have aU:=Hk J;have aJ:=Hk ((Qam (ca.out.drew) F (by omega)).alloc (.cells #[.string (ba a)] 9));clear ag F al J)|(refine step_append_lies _ (by rfl) _ _ _ (by rfl) (w.heap.size) 9 i0 _ 1 16 Tryz.underlying44 hi bu bQ bC rfl (by omega) (.slice (some ⟨w2.heap.size,0,none⟩) 1 1) (1) _ (by rfl) ac.out ⟨ad.heap.size,0,none⟩ 1 1 [.string (ba a)] (by rfl) (by rfl) (Qcb ad [.string (ba a)] 9 _ rfl) (by simp[Value.oneCell']) (by omega) (by unfold maxLen;omega) (by omega) (by simp;omega) (ad.heap.size+1) (by simp) ?_;intro gg bR cd ae E ao b6;have X5:=Hk ((aU.out.below (Qaa ad (.cells #[.string (ba a)] 9))).grown E (by intro e;have:=ac.out.lt _ e;omega));have c5:=X5.out.cell 3 rfl;have f5:=X5.out.fz 3;have l5:=X5.out.lt;have ax:=Hk E;have aR:=Hk ae;have be:=Hk ao;have aZ:=Hk (aJ.out.kept E (Or.inr (by intro e;simp[Value.ownBlock] at e;omega)));clear ao;clear E ae))
   all_goals go_wp2_with fail
   all_goals go_meet
   all_goals(exact⟨rfl,a,tn,_,aV.out,(((aY.out.below (Qaa _ _)).grown ax.out (fun q hq=>by have:=ac.out.lt q hq;omega)).set (by omega)),(((az.out.box _).grown ax.out (fun q hq=>by have:=ac.out.lt q hq;omega)).put (by omega) _),X5.out.set _ _,ownsRow_setCell_below (aR.out) (a:=⟨K,3,none⟩) (by show K<_;omega) _,(ownsRow_setCell_below aZ.out (a:=⟨K,3,none⟩) (by show K<_;omega) _),gg,bR,rfl,(by have h2:=(aJ.out.lt _ rfl).2;rcases be.out with h|h<;>simp[Value.ownBlock] at h h2<;>omega)⟩)
 case rest=>
  obtain⟨rfl,db,bY,cV,I,D,bN,bz,bv,bT⟩:=hcut;have he:=bind_ok aT.out I
  dsimp only at he
  have aW:=Hk he;clear he I;have bX:=Hk D;have aB:=Hk bN;have bh:=Hk bz;have bk:=Hk bv;have cv:=bh.out.lt;have cu:=aB.out.size;have aK:=Hk bT;clear bT;clear D bN bz bv aX aD aT bE ak;obtain⟨bw,gi,ci,cp,cY⟩:=aK.out;subst cp;have br:=Hk bw;clear bw aK;go_wp2_with (go_at_call 111;fail);refine(QaK [46] R bY _ bX.out (by decide)).mono ?_;rintro e w6 ⟨⟨a7,a0,v,y,rfl,hv,D⟩|⟨er,y,H⟩,am⟩
  rotate_left
  ·obtain⟨O,rfl,N,U,Z,tl⟩:=H;have HP:=Hk (Qaf aW.out y);clear y;go_wp2;exact⟨rfl,Or.inr ⟨_,HP.out,O,rfl,N,U,Nat.le_trans aB.out.size Z,tl⟩,aB.out.then am⟩
  subst hv;have he:=bind_ok aW.out y
  dsimp only at he
  have bS:=Hk he;clear he y;have bF:=Hk D;have aP:=Hk (aB.out.then am);have av:=Hk (bh.out.but am (by omega));have cZ:=av.out.lt;have cf:=Hk (Qam bk.out am (by omega));have b8:=Hk (Qam br.out am (by omega));have b4:=am.size
  try simp only[World.size_alloc,Qac] at b4
  clear bX aB bh bk br aW D am;have cP:=av.out.cell 4 rfl;have cE:=av.out.fz 4;have cD:=av.out.lt;go_wp2_with fail
  cases I:Qbe a0 with
  |error er=>
   have HP:=Hk (Qaf bS.out I);have HC:=Hk (Qav R a0 _ bF.out.drew);rw[I] at HC;refine wp_region_held_drew (S:=fun V=>V.cell? ⟨K,4,none⟩=some (.slice (some ⟨M.heap.size,0,none⟩) 1 1)) (by kernel_rfl) (av.out.cell 4 rfl) (fun hHeld=>?_);refine wpAnyH_take (i:=0) (v:=.pointer (some ⟨K,0,none⟩)) rfl (by kernel_rfl) (by kernel_rfl) (by kernel_rfl) (fun _ _ _ h=>h) (Or.inl ⟨by rfl,?_⟩) (by assumption) ?_
   ·intro V hV;go_simp
   simp only[List.getElem_toArray,List.getElem_cons_zero,List.getElem_cons_succ,Act.put,List.setIfInBounds_toArray,List.set_cons_zero,List.set_cons_succ];refine wpAnyH_take (i:=1) (v:=.pointer (some ⟨K,0,none⟩)) rfl (by kernel_rfl) (by kernel_rfl) (by kernel_rfl) (fun _ _ _ h=>h) (Or.inl ⟨by rfl,?_⟩) (by assumption) ?_
   ·intro V hV;go_simp
   simp only[List.getElem_toArray,List.getElem_cons_zero,List.getElem_cons_succ,Act.put,List.setIfInBounds_toArray,List.set_cons_zero,List.set_cons_succ];refine wpAnyH_take (i:=2) (v:=.pointer (some ⟨K,0,none⟩)) rfl (by kernel_rfl) (by kernel_rfl) (by kernel_rfl) (fun _ _ _ h=>h) (Or.inl ⟨by rfl,?_⟩) (by assumption) ?_
   ·intro V hV;go_simp
   simp only[List.getElem_toArray,List.getElem_cons_zero,List.getElem_cons_succ,Act.put,List.setIfInBounds_toArray,List.set_cons_zero,List.set_cons_succ];refine wpAnyH_take (i:=3) (v:=.pointer (some ⟨K,4,none⟩)) rfl (by kernel_rfl) (by kernel_rfl) (by kernel_rfl) (fun _ _ _ h=>h) (Or.inl ⟨by rfl,?_⟩) (by assumption) ?_
   ·intro V hV;go_simp
   simp only[List.getElem_toArray,List.getElem_cons_zero,List.getElem_cons_succ,Act.put,List.setIfInBounds_toArray,List.set_cons_zero,List.set_cons_succ];refine wpAnyH_take (i:=4) (v:=.slice (some ⟨M.heap.size,0,none⟩) 1 1) rfl (by kernel_rfl) (by kernel_rfl) (by kernel_rfl) (fun _ _ _ h=>h) (Or.inl ⟨by rfl,?_⟩) (by assumption) ?_
   ·intro V hV;go_simp
   simp only[List.getElem_toArray,List.getElem_cons_zero,List.getElem_cons_succ,Act.put,List.setIfInBounds_toArray,List.set_cons_zero,List.set_cons_succ];refine wpAnyH_take (i:=5) (v:=.pointer (some ⟨R,0,none⟩)) rfl (by kernel_rfl) (by kernel_rfl) (by kernel_rfl) (fun _ _ _ h=>h) (Or.inl ⟨by rfl,?_⟩) (by assumption) ?_
   ·intro V hV;go_simp
   simp only[List.getElem_toArray,List.getElem_cons_zero,List.getElem_cons_succ,Act.put,List.setIfInBounds_toArray,List.set_cons_zero,List.set_cons_succ];refine wpAnyH_ready (rs:=[6]) (by kernel_rfl) (by simp) ?_;refine AllReadyH.cons rfl (fun K hK=>?_) AllReadyH.nil;go_simp;refine HC.out.mono ?_;rintro e wt ⟨ag,aQ⟩;obtain⟨O,rfl,N,U,Z,tl⟩:=ag.err;go_wp2;exact⟨rfl,Or.inr ⟨_,HP.out,O,rfl,N,U,Nat.le_trans aP.out.size Z,tl⟩,aP.out.drew.then aQ⟩
  |ok z=>
   obtain⟨a,tn⟩:=z;have HC:=Hk (Qav R a0 _ bF.out.drew);rw[I] at HC;have aV:=Hk I;clear I;have EN:=Hk (bind_ok bS.out aV.out);go_region_law (first|(go_simp;go_at_call 112;refine HC.out.mono ?_;rintro e ad ⟨ag,F⟩;obtain⟨ve,rfl,ay,al⟩:=ag.ok;unfold encS at ay;subst ay;have J:=(av.out.block (w':=w6.drew) rfl).but F (by omega);have c4:=J.cell 4 rfl;have l4:=J.lt;have aY:=Hk al;have az:=Hk (aP.out.drew.then F);have co:=az.out.size;have ac:=Hk ((Qam (b8.out.drew) F (by omega)).alloc (.cells #[.string (ba a)] 9));have aU:=Hk J;have aJ:=Hk ((Qam (cf.out.drew) F (by omega)).alloc (.cells #[.string (ba a)] 9));clear ag F al J)|(refine step_append_lies _ (by rfl) _ _ _ (by rfl) (w.heap.size) 9 i0 _ 1 16 Tryz.underlying44 hi bu bQ bC rfl (by omega) (.slice (some ⟨M.heap.size,0,none⟩) 1 1) (1) _ (by rfl) ac.out ⟨ad.heap.size,0,none⟩ 1 1 [.string (ba a)] (by rfl) (by rfl) (Qcb ad [.string (ba a)] 9 _ rfl) (by simp[Value.oneCell']) (by omega) (by unfold maxLen;omega) (by omega) (by simp;omega) (ad.heap.size+1) (by simp) ?_;intro gg bR cd ae E ao b6;have X5:=Hk ((aU.out.below (Qaa ad (.cells #[.string (ba a)] 9))).grown E (by intro e;have:=ac.out.lt _ e;omega));have c5:=X5.out.cell 4 rfl;have f5:=X5.out.fz 4;have l5:=X5.out.lt;have ax:=Hk E;have aR:=Hk ae;have be:=Hk ao;have aZ:=Hk (aJ.out.kept E (Or.inr (by intro e;simp[Value.ownBlock] at e;omega)));clear ao;clear E ae))
   all_goals
    (go_wp2
     go_end0
     exact⟨Or.inl ⟨_,_,.slice (some ⟨gi,0,none⟩) 2 ci,_,EN.out,rfl,(((aY.out.below (Qaa _ _)).grown ax.out (fun q hq=>by have:=ac.out.lt q hq;omega)).set (by omega)),(X5.out.set _ _),(ownsRow_setCell_below aZ.out (a:=⟨K,4,none⟩) (by show K<_;omega) _),(ownsRow_setCell_below (aR.out) (a:=⟨K,4,none⟩) (by show K<_;omega) _)⟩,(((az.out.box _).grown ax.out (fun q hq=>by have:=ac.out.lt q hq;omega)).put (by omega) _)⟩)
end Go.Proofs.YtjlgejennghhlaaGreatDoor.Fw
