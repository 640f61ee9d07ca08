import Derived.Test.YtjlgejennghhlaaGreatDoorQ01
import Derived.Test.YtjlgejennghhlaaGreatDoorQ16
set_option linter.unusedSimpArgs false
set_option linter.unusedVariables false
set_option linter.unusedSectionVars false
set_option maxRecDepth 1000000
set_option maxHeartbeats 16000000
namespace Go.Proofs.YtjlgejennghhlaaGreatDoor.Fw
open Go.RowKit
theorem Qoi (at_:Nat) (outs:List By) (retry:Int) (vo:Value) (K R:Nat) (ts:List Tk) (w:World) (h:RD w R ts) (hK:Box w K [.int .i64 (at_:Nat),.int .i64 0,vo,.slice none 0 0,.slice none 0 0,.string ⟨#[]⟩,.string ⟨#[]⟩,.int .i64 0,.int .i64 0,.string ⟨#[]⟩,.string ⟨#[]⟩,.int .i64 0,.int .i64 0,.string ⟨#[]⟩,.int .i64 retry]) (df:R<K) (bM:∀c t,Qch ts=.ok (c,t)->c=7):
 Calls Tryz.prog 117 #[.pointer (some ⟨R,0,none⟩),.pointer (some ⟨K,0,none⟩)] w fun e w'=>Qgf (Qb8 at_ outs retry ts) vo K e w.heap.size w' R/\But2 R K w w':=by
 obtain⟨i0,hi,bv,bR,bD⟩:=info_parts Tryz.infoStr;have hR:=h.lt;have de:=hK.lt;have H0:=Hk h;have B0:=Hk (But2.refl R K w);have X0:=Hk hK;have E0:=Hk (Qb8.eq_1 at_ outs retry ts);clear h hK;go_enter Tryz.func117,Tryz.ntmps117;go_wp2_with (go_at_call 154;fail);refine(QbI R ts _ H0.out).mono ?_;rintro e w1 ⟨⟨a1,cr,v,y,rfl,hv,D⟩|⟨er,y,I⟩,aD⟩
 rotate_left
 ·obtain⟨U,rfl,O,Z,tB,tl⟩:=I;have HP:=Hk (Qaf E0.out y);clear y;go_wp2;exact⟨rfl,Or.inr ⟨_,HP.out,U,rfl,O,Z,Nat.le_trans B0.out.size tB,tl⟩,B0.out.then aD⟩
 unfold encI at hv;subst hv;have cu:=bM _ _ y;subst cu;have he:=bind_ok E0.out y
 dsimp only at he
 have E1:=Hk he;clear he y;have H2:=Hk D;have B3:=Hk (B0.out.then aD);have M:=Hk (X0.out.but aD (by omega));have q5:=M.out.lt;have cf:=aD.size
 try simp only[World.size_alloc,Qac] at cf
 clear H0 B0 X0 E0 D aD;clear bM;have c8:=M.out.cell 1 rfl;have c9:=M.out.fz 1;have db:=M.out.lt;have bN:=Hk (H2.out.set (k:=K) (i:=1) (v:=.int .i64 7) (by omega));have aM:=Hk (B3.out.put (k:=K) (i:=1) (by omega) (.int .i64 7));have bB:Hid (Box (w1.setCell ⟨K,1,none⟩ (.int .i64 7)) K [.int .i64 (at_:Nat),.int .i64 7,vo,.slice none 0 0,.slice none 0 0,.string ⟨#[]⟩,.string ⟨#[]⟩,.int .i64 0,.int .i64 0,.string ⟨#[]⟩,.string ⟨#[]⟩,.int .i64 0,.int .i64 0,.string ⟨#[]⟩,.int .i64 retry]):=Hk (M.out.set 1 (.int .i64 7));clear H2 B3 M;go_wp2_with (go_at_call 112;fail);refine(Qav R cr _ bN.out).mono ?_;rintro e w2 ⟨⟨a2,ct,v,y,rfl,hv,D⟩|⟨er,y,I⟩,aB⟩
 rotate_left
 ·obtain⟨U,rfl,O,Z,tB,tl⟩:=I;have HP:=Hk (Qaf E1.out y);clear y;go_wp2;exact⟨rfl,Or.inr ⟨_,HP.out,U,rfl,O,Z,Nat.le_trans aM.out.size tB,tl⟩,aM.out.then aB⟩
 unfold encS at hv;subst hv;have he:=bind_ok E1.out y
 dsimp only at he
 have bC:=Hk he;clear he y;have br:=Hk D;have bP:=Hk (aM.out.then aB);have ak:=Hk (bB.out.but aB (by omega));have dd:=ak.out.lt;have b8:=aB.size
 try simp only[World.size_alloc,Qac] at b8
 clear bN aM bB E1 D aB;have cU:=ak.out.cell 1 rfl;have cD:=ak.out.cell 3 rfl;have cG:=ak.out.fz 3;have cL:=ak.out.lt;have bt:=Hk (br.out.set (k:=K) (i:=3) (v:=.slice (some ⟨w2.heap.size,0,none⟩) 1 1) (by omega));have aJ:=Hk (bP.out.put (k:=K) (i:=3) (by omega) (.slice (some ⟨w2.heap.size,0,none⟩) 1 1));have bq:Hid (Box (w2.setCell ⟨K,3,none⟩ (.slice (some ⟨w2.heap.size,0,none⟩) 1 1)) K [.int .i64 (at_:Nat),.int .i64 7,vo,.slice (some ⟨w2.heap.size,0,none⟩) 1 1,.slice none 0 0,.string ⟨#[]⟩,.string ⟨#[]⟩,.int .i64 0,.int .i64 0,.string ⟨#[]⟩,.string ⟨#[]⟩,.int .i64 0,.int .i64 0,.string ⟨#[]⟩,.int .i64 retry]):=Hk (ak.out.set 3 (.slice (some ⟨w2.heap.size,0,none⟩) 1 1));clear br bP ak;have bQ:=Hk (bt.out.below (Qaa _ (.cells #[.string (ba a2)] 9)));have aF:=Hk (aJ.out.box (.cells #[.string (ba a2)] 9));have bn:=Hk (bq.out.below (Qaa _ (.cells #[.string (ba a2)] 9)));have bV:=Hk (own_new1 (w2.setCell ⟨K,3,none⟩ (.slice (some ⟨w2.heap.size,0,none⟩) 1 1)) w.heap.size 9 (Qck [a2]) 1 w2.heap.size rfl (aJ.out.size) (Qac _ _ _).symm);have bd:=aJ.out.size;simp only[Qac] at bd;clear bt aJ bq;have he:=bC.out;rw[if_neg (by decide),if_neg (by decide),if_neg (by decide),if_neg (by decide),if_pos (by decide)] at he;have bb:=Hk he;clear he bC;go_wp2_with (go_at_call 111;fail);refine(QaK [46] R ct _ bQ.out (by decide)).mono ?_;rintro e w3 ⟨⟨a3,cc,v,y,rfl,hv,D⟩|⟨er,y,I⟩,av⟩
 rotate_left
 ·obtain⟨U,rfl,O,Z,tB,tl⟩:=I;have HP:=Hk (Qaf bb.out y);clear y;go_wp2;exact⟨rfl,Or.inr ⟨_,HP.out,U,rfl,O,Z,Nat.le_trans aF.out.size tB,tl⟩,aF.out.then av⟩
 subst hv;have he:=bind_ok bb.out y
 dsimp only at he
 have aT:=Hk he;clear he y;have bo:=Hk D;have aN:=Hk (aF.out.then av);have be:=Hk (bn.out.but av (by omega));have c7:=be.out.lt;have bW:=Hk (Qal bV.out av (by omega));have b1:=av.size
 try simp only[World.size_alloc,Qac] at b1
 clear bQ aF bn bV bb D av;go_wp2_with (go_at_call 112;fail);refine(Qav R cc _ bo.out).mono ?_;rintro e N ⟨⟨a4,cn,v,y,rfl,hv,D⟩|⟨er,y,I⟩,H⟩
 rotate_left
 ·obtain⟨U,rfl,O,Z,tB,tl⟩:=I;have HP:=Hk (Qaf aT.out y);clear y;go_wp2;exact⟨rfl,Or.inr ⟨_,HP.out,U,rfl,O,Z,Nat.le_trans aN.out.size tB,tl⟩,aN.out.then H⟩
 unfold encS at hv;subst hv;have he:=bind_ok aT.out y
 dsimp only at he
 have bh:=Hk he;clear he y;have bX:=Hk D;have bu:=Hk (aN.out.then H);have aj:=Hk (be.out.but H (by omega));have da:=aj.out.lt;have bz:=Hk (Qal bW.out H (by omega));have b3:=H.size
 try simp only[World.size_alloc,Qac] at b3
 clear bo aN be bW aT D H;have cV:=aj.out.cell 1 rfl;have cY:=aj.out.cell 4 rfl;have cJ:=aj.out.fz 4;have cH:=aj.out.lt;have bH:=Hk (bX.out.set (k:=K) (i:=4) (v:=.slice (some ⟨N.heap.size,0,none⟩) 1 1) (by omega));have aI:=Hk (bu.out.put (k:=K) (i:=4) (by omega) (.slice (some ⟨N.heap.size,0,none⟩) 1 1));have bE:Hid (Box (N.setCell ⟨K,4,none⟩ (.slice (some ⟨N.heap.size,0,none⟩) 1 1)) K [.int .i64 (at_:Nat),.int .i64 7,vo,.slice (some ⟨w2.heap.size,0,none⟩) 1 1,.slice (some ⟨N.heap.size,0,none⟩) 1 1,.string ⟨#[]⟩,.string ⟨#[]⟩,.int .i64 0,.int .i64 0,.string ⟨#[]⟩,.string ⟨#[]⟩,.int .i64 0,.int .i64 0,.string ⟨#[]⟩,.int .i64 retry]):=Hk (aj.out.set 4 (.slice (some ⟨N.heap.size,0,none⟩) 1 1));have bI:=Hk (ownsRow_setCell_below bz.out (a:=⟨K,4,none⟩) (by show K<_;omega) (.slice (some ⟨N.heap.size,0,none⟩) 1 1));clear bX bu aj bz;have bJ:=Hk (bH.out.below (Qaa _ (.cells #[.string (ba a4)] 9)));have aH:=Hk (aI.out.box (.cells #[.string (ba a4)] 9));have bp:=Hk (bE.out.below (Qaa _ (.cells #[.string (ba a4)] 9)));have bK:=Hk (own_new1 (N.setCell ⟨K,4,none⟩ (.slice (some ⟨N.heap.size,0,none⟩) 1 1)) w.heap.size 9 (Qck [a4]) 1 N.heap.size rfl (aI.out.size) (Qac _ _ _).symm);have bL:=Hk (bI.out.alloc (.cells #[.string (ba a4)] 9));have bj:=aI.out.size;simp only[Qac] at bj;clear bH aI bE bI;go_wp2_with (go_at_call 111;fail);refine(QaK [44] R cn _ bJ.out (by decide)).mono ?_;rintro e w5 ⟨⟨a5,aG,v,y,rfl,hv,D⟩|⟨er,y,I⟩,ar⟩
 rotate_left
 ·obtain⟨U,rfl,O,Z,tB,tl⟩:=I;have HP:=Hk (Qaf bh.out y);clear y;go_wp2;exact⟨rfl,Or.inr ⟨_,HP.out,U,rfl,O,Z,Nat.le_trans aH.out.size tB,tl⟩,aH.out.then ar⟩
 subst hv;have he:=bind_ok bh.out y
 dsimp only at he
 have aU:=Hk he;clear he y;have aY:=Hk D;have aE:=Hk (aH.out.then ar);have al:=Hk (bp.out.but ar (by omega));have dg:=al.out.lt;have bF:=Hk (Qal bL.out ar (by omega));have cb:=Hk (Qal bK.out ar (by omega));have b2:=ar.size
 try simp only[World.size_alloc,Qac] at b2
 clear bJ aH bp bL bK bh D ar;have cx:=al.out.cell 3 rfl;have cN:=al.out.fz 3;have cP:=al.out.lt;go_wp2_with fail
 go_cut [1] (fun p wx=>p=.pointer (some ⟨K,0,none⟩)/\∃(a:By) (tn:List Tk) (vn:Value),Qbd aG=.ok (a,tn)/\RD wx R tn/\But2 R K w wx/\Box wx K [.int .i64 (at_:Nat),.int .i64 7,vo,vn,.slice (some ⟨N.heap.size,0,none⟩) 1 1,.string ⟨#[]⟩,.string ⟨#[]⟩,.int .i64 0,.int .i64 0,.string ⟨#[]⟩,.string ⟨#[]⟩,.int .i64 0,.int .i64 0,.string ⟨#[]⟩,.int .i64 retry]/\wx.ownsRow w.heap.size 9 1 vn (1+1) (Qck [a2,a])/\wx.ownsRow w.heap.size 9 1 (.slice (some ⟨N.heap.size,0,none⟩) 1 1) 1 (Qck [a4])/\∃g c,vn=.slice (some ⟨g,0,none⟩) 2 c/\g≠N.heap.size)
 case first=>
  cases J:Qbd aG with
  |error er=>
   have HP:=Hk (Qaf aU.out J);have HC:=Hk (Qav R aG _ aY.out.drew);rw[J] at HC;refine wp_region_held_drew (S:=fun V=>V.cell? ⟨K,3,none⟩=some (.slice (some ⟨w2.heap.size,0,none⟩) 1 1)) (by kernel_rfl) (al.out.cell 3 rfl) (fun hHeld=>?_);refine wpAnyH_take (i:=0) (v:=.pointer (some ⟨K,0,none⟩)) rfl (by kernel_rfl) (by kernel_rfl) (by kernel_rfl) (fun _ _ _ h=>h) (Or.inl ⟨by rfl,?_⟩) (by assumption) ?_
   ·intro V hV;go_simp
   simp only[List.getElem_toArray,List.getElem_cons_zero,List.getElem_cons_succ,Act.put,List.setIfInBounds_toArray,List.set_cons_zero,List.set_cons_succ];refine wpAnyH_take (i:=1) (v:=.pointer (some ⟨K,0,none⟩)) rfl (by kernel_rfl) (by kernel_rfl) (by kernel_rfl) (fun _ _ _ h=>h) (Or.inl ⟨by rfl,?_⟩) (by assumption) ?_
   ·intro V hV;go_simp
   simp only[List.getElem_toArray,List.getElem_cons_zero,List.getElem_cons_succ,Act.put,List.setIfInBounds_toArray,List.set_cons_zero,List.set_cons_succ];refine wpAnyH_take (i:=2) (v:=.pointer (some ⟨K,0,none⟩)) rfl (by kernel_rfl) (by kernel_rfl) (by kernel_rfl) (fun _ _ _ h=>h) (Or.inl ⟨by rfl,?_⟩) (by assumption) ?_
   ·intro V hV;go_simp
   simp only[List.getElem_toArray,List.getElem_cons_zero,List.getElem_cons_succ,Act.put,List.setIfInBounds_toArray,List.set_cons_zero,List.set_cons_succ];refine wpAnyH_take (i:=3) (v:=.pointer (some ⟨K,3,none⟩)) rfl (by kernel_rfl) (by kernel_rfl) (by kernel_rfl) (fun _ _ _ h=>h) (Or.inl ⟨by rfl,?_⟩) (by assumption) ?_
   ·intro V hV;go_simp
   simp only[List.getElem_toArray,List.getElem_cons_zero,List.getElem_cons_succ,Act.put,List.setIfInBounds_toArray,List.set_cons_zero,List.set_cons_succ];refine wpAnyH_take (i:=4) (v:=.slice (some ⟨w2.heap.size,0,none⟩) 1 1) rfl (by kernel_rfl) (by kernel_rfl) (by kernel_rfl) (fun _ _ _ h=>h) (Or.inl ⟨by rfl,?_⟩) (by assumption) ?_
   ·intro V hV;go_simp
   simp only[List.getElem_toArray,List.getElem_cons_zero,List.getElem_cons_succ,Act.put,List.setIfInBounds_toArray,List.set_cons_zero,List.set_cons_succ];refine wpAnyH_take (i:=5) (v:=.pointer (some ⟨R,0,none⟩)) rfl (by kernel_rfl) (by kernel_rfl) (by kernel_rfl) (fun _ _ _ h=>h) (Or.inl ⟨by rfl,?_⟩) (by assumption) ?_
   ·intro V hV;go_simp
   simp only[List.getElem_toArray,List.getElem_cons_zero,List.getElem_cons_succ,Act.put,List.setIfInBounds_toArray,List.set_cons_zero,List.set_cons_succ];refine wpAnyH_ready (rs:=[6]) (by kernel_rfl) (by simp) ?_;refine AllReadyH.cons rfl (fun K hK=>?_) AllReadyH.nil;go_simp;refine HC.out.mono ?_;rintro e wt ⟨ah,aR⟩;obtain⟨U,rfl,O,Z,tB,tl⟩:=ah.err;go_wp2;exact⟨rfl,Or.inr ⟨_,HP.out,U,rfl,O,Z,Nat.le_trans aE.out.size tB,tl⟩,aE.out.drew.then aR⟩
  |ok z=>
   obtain⟨a,tn⟩:=z;have HC:=Hk (Qav R aG _ aY.out.drew);rw[J] at HC;have aW:=Hk J;clear J;go_region_law (first|(go_simp;go_at_call 112;refine HC.out.mono ?_;rintro e ae ⟨ah,H⟩;obtain⟨ve,rfl,az,am⟩:=ah.ok;unfold encS at az;subst az;have M:=(al.out.block (w':=w5.drew) rfl).but H (by omega);have c4:=M.cell 3 rfl;have l4:=M.lt;have aZ:=Hk am;have aA:=Hk (aE.out.drew.then H);have cp:=aA.out.size;have ad:=Hk ((Qal (bF.out.drew) H (by omega)).alloc (.cells #[.string (ba a)] 9));have aV:=Hk M;have aK:=Hk ((Qal (cb.out.drew) H (by omega)).alloc (.cells #[.string (ba a)] 9));clear ah H am M)|(refine step_append_lies _ (by rfl) _ _ _ (by rfl) (w.heap.size) 9 i0 _ 1 16 Tryz.underlying44 hi bv bR bD rfl (by omega) (.slice (some ⟨w2.heap.size,0,none⟩) 1 1) (1) _ (by rfl) ad.out ⟨ae.heap.size,0,none⟩ 1 1 [.string (ba a)] (by rfl) (by rfl) (Qb9 ae [.string (ba a)] 9 _ rfl) (by simp[Value.oneCell']) (by omega) (by unfold maxLen;omega) (by omega) (by simp;omega) (ae.heap.size+1) (by simp) ?_;intro gg bS ce af F ap b7;have X5:=Hk ((aV.out.below (Qaa ae (.cells #[.string (ba a)] 9))).grown F (by intro e;have:=ad.out.lt _ e;omega));have c5:=X5.out.cell 3 rfl;have f5:=X5.out.fz 3;have l5:=X5.out.lt;have ay:=Hk F;have aS:=Hk af;have bf:=Hk ap;have a0:=Hk (aK.out.kept F (Or.inr (by intro e;simp[Value.ownBlock] at e;omega)));clear ap;clear F af))
   all_goals go_wp2_with fail
   all_goals go_meet
   all_goals(exact⟨rfl,a,tn,_,aW.out,(((aZ.out.below (Qaa _ _)).grown ay.out (fun q hq=>by have:=ad.out.lt q hq;omega)).set (by omega)),(((aA.out.box _).grown ay.out (fun q hq=>by have:=ad.out.lt q hq;omega)).put (by omega) _),X5.out.set _ _,ownsRow_setCell_below (aS.out) (a:=⟨K,3,none⟩) (by show K<_;omega) _,(ownsRow_setCell_below a0.out (a:=⟨K,3,none⟩) (by show K<_;omega) _),gg,bS,rfl,(by have h2:=(aK.out.lt _ rfl).2;rcases bf.out with h|h<;>simp[Value.ownBlock] at h h2<;>omega)⟩)
 case rest=>
  obtain⟨rfl,dc,bZ,cW,J,D,bO,bA,bw,bU⟩:=hcut;have he:=bind_ok aU.out J
  dsimp only at he
  have aX:=Hk he;clear he J;have bY:=Hk D;have aC:=Hk bO;have bi:=Hk bA;have bm:=Hk bw;have cw:=bi.out.lt;have cv:=aC.out.size;have aL:=Hk bU;clear bU;clear D bO bA bw aY aE aU bF al;obtain⟨bx,gi,ci,cq,cZ⟩:=aL.out;subst cq;have bs:=Hk bx;clear bx aL;go_wp2_with (go_at_call 111;fail);refine(QaK [46] R bZ _ bY.out (by decide)).mono ?_;rintro e w6 ⟨⟨a7,a6,v,y,rfl,hv,D⟩|⟨er,y,I⟩,ao⟩
  rotate_left
  ·obtain⟨U,rfl,O,Z,tB,tl⟩:=I;have HP:=Hk (Qaf aX.out y);clear y;go_wp2;exact⟨rfl,Or.inr ⟨_,HP.out,U,rfl,O,Z,Nat.le_trans aC.out.size tB,tl⟩,aC.out.then ao⟩
  subst hv;have he:=bind_ok aX.out y
  dsimp only at he
  have bT:=Hk he;clear he y;have bG:=Hk D;have aQ:=Hk (aC.out.then ao);have aw:=Hk (bi.out.but ao (by omega));have c6:=aw.out.lt;have cg:=Hk (Qal bm.out ao (by omega));have b9:=Hk (Qal bs.out ao (by omega));have b5:=ao.size
  try simp only[World.size_alloc,Qac] at b5
  clear bY aC bi bm bs aX D ao;have cQ:=aw.out.cell 4 rfl;have cF:=aw.out.fz 4;have cE:=aw.out.lt;go_wp2_with fail
  cases J:Qbd a6 with
  |error er=>
   have HP:=Hk (Qaf bT.out J);have HC:=Hk (Qav R a6 _ bG.out.drew);rw[J] at HC;refine wp_region_held_drew (S:=fun V=>V.cell? ⟨K,4,none⟩=some (.slice (some ⟨N.heap.size,0,none⟩) 1 1)) (by kernel_rfl) (aw.out.cell 4 rfl) (fun hHeld=>?_);refine wpAnyH_take (i:=0) (v:=.pointer (some ⟨K,0,none⟩)) rfl (by kernel_rfl) (by kernel_rfl) (by kernel_rfl) (fun _ _ _ h=>h) (Or.inl ⟨by rfl,?_⟩) (by assumption) ?_
   ·intro V hV;go_simp
   simp only[List.getElem_toArray,List.getElem_cons_zero,List.getElem_cons_succ,Act.put,List.setIfInBounds_toArray,List.set_cons_zero,List.set_cons_succ];refine wpAnyH_take (i:=1) (v:=.pointer (some ⟨K,0,none⟩)) rfl (by kernel_rfl) (by kernel_rfl) (by kernel_rfl) (fun _ _ _ h=>h) (Or.inl ⟨by rfl,?_⟩) (by assumption) ?_
   ·intro V hV;go_simp
   simp only[List.getElem_toArray,List.getElem_cons_zero,List.getElem_cons_succ,Act.put,List.setIfInBounds_toArray,List.set_cons_zero,List.set_cons_succ];refine wpAnyH_take (i:=2) (v:=.pointer (some ⟨K,0,none⟩)) rfl (by kernel_rfl) (by kernel_rfl) (by kernel_rfl) (fun _ _ _ h=>h) (Or.inl ⟨by rfl,?_⟩) (by assumption) ?_
   ·intro V hV;go_simp
   simp only[List.getElem_toArray,List.getElem_cons_zero,List.getElem_cons_succ,Act.put,List.setIfInBounds_toArray,List.set_cons_zero,List.set_cons_succ];refine wpAnyH_take (i:=3) (v:=.pointer (some ⟨K,4,none⟩)) rfl (by kernel_rfl) (by kernel_rfl) (by kernel_rfl) (fun _ _ _ h=>h) (Or.inl ⟨by rfl,?_⟩) (by assumption) ?_
   ·intro V hV;go_simp
   simp only[List.getElem_toArray,List.getElem_cons_zero,List.getElem_cons_succ,Act.put,List.setIfInBounds_toArray,List.set_cons_zero,List.set_cons_succ];refine wpAnyH_take (i:=4) (v:=.slice (some ⟨N.heap.size,0,none⟩) 1 1) rfl (by kernel_rfl) (by kernel_rfl) (by kernel_rfl) (fun _ _ _ h=>h) (Or.inl ⟨by rfl,?_⟩) (by assumption) ?_
   ·intro V hV;go_simp
   simp only[List.getElem_toArray,List.getElem_cons_zero,List.getElem_cons_succ,Act.put,List.setIfInBounds_toArray,List.set_cons_zero,List.set_cons_succ];refine wpAnyH_take (i:=5) (v:=.pointer (some ⟨R,0,none⟩)) rfl (by kernel_rfl) (by kernel_rfl) (by kernel_rfl) (fun _ _ _ h=>h) (Or.inl ⟨by rfl,?_⟩) (by assumption) ?_
   ·intro V hV;go_simp
   simp only[List.getElem_toArray,List.getElem_cons_zero,List.getElem_cons_succ,Act.put,List.setIfInBounds_toArray,List.set_cons_zero,List.set_cons_succ];refine wpAnyH_ready (rs:=[6]) (by kernel_rfl) (by simp) ?_;refine AllReadyH.cons rfl (fun K hK=>?_) AllReadyH.nil;go_simp;refine HC.out.mono ?_;rintro e wt ⟨ah,aR⟩;obtain⟨U,rfl,O,Z,tB,tl⟩:=ah.err;go_wp2;exact⟨rfl,Or.inr ⟨_,HP.out,U,rfl,O,Z,Nat.le_trans aQ.out.size tB,tl⟩,aQ.out.drew.then aR⟩
  |ok z=>
   obtain⟨a,tn⟩:=z;have HC:=Hk (Qav R a6 _ bG.out.drew);rw[J] at HC;have aW:=Hk J;clear J;have EN:=Hk (bind_ok bT.out aW.out);go_region_law (first|(go_simp;go_at_call 112;refine HC.out.mono ?_;rintro e ae ⟨ah,H⟩;obtain⟨ve,rfl,az,am⟩:=ah.ok;unfold encS at az;subst az;have M:=(aw.out.block (w':=w6.drew) rfl).but H (by omega);have c4:=M.cell 4 rfl;have l4:=M.lt;have aZ:=Hk am;have aA:=Hk (aQ.out.drew.then H);have cp:=aA.out.size;have ad:=Hk ((Qal (b9.out.drew) H (by omega)).alloc (.cells #[.string (ba a)] 9));have aV:=Hk M;have aK:=Hk ((Qal (cg.out.drew) H (by omega)).alloc (.cells #[.string (ba a)] 9));clear ah H am M)|(refine step_append_lies _ (by rfl) _ _ _ (by rfl) (w.heap.size) 9 i0 _ 1 16 Tryz.underlying44 hi bv bR bD rfl (by omega) (.slice (some ⟨N.heap.size,0,none⟩) 1 1) (1) _ (by rfl) ad.out ⟨ae.heap.size,0,none⟩ 1 1 [.string (ba a)] (by rfl) (by rfl) (Qb9 ae [.string (ba a)] 9 _ rfl) (by simp[Value.oneCell']) (by omega) (by unfold maxLen;omega) (by omega) (by simp;omega) (ae.heap.size+1) (by simp) ?_;intro gg bS ce af F ap b7;have X5:=Hk ((aV.out.below (Qaa ae (.cells #[.string (ba a)] 9))).grown F (by intro e;have:=ad.out.lt _ e;omega));have c5:=X5.out.cell 4 rfl;have f5:=X5.out.fz 4;have l5:=X5.out.lt;have ay:=Hk F;have aS:=Hk af;have bf:=Hk ap;have a0:=Hk (aK.out.kept F (Or.inr (by intro e;simp[Value.ownBlock] at e;omega)));clear ap;clear F af))
   all_goals
    (go_wp2
     go_end0
     exact⟨Or.inl ⟨_,_,.slice (some ⟨gi,0,none⟩) 2 ci,_,EN.out,rfl,(((aZ.out.below (Qaa _ _)).grown ay.out (fun q hq=>by have:=ad.out.lt q hq;omega)).set (by omega)),(X5.out.set _ _),(ownsRow_setCell_below a0.out (a:=⟨K,4,none⟩) (by show K<_;omega) _),(ownsRow_setCell_below (aS.out) (a:=⟨K,4,none⟩) (by show K<_;omega) _)⟩,(((aA.out.box _).grown ay.out (fun q hq=>by have:=ad.out.lt q hq;omega)).put (by omega) _)⟩)
end Go.Proofs.YtjlgejennghhlaaGreatDoor.Fw
