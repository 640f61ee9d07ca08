import Derived.Test.YtjlgejennghhlaaGreatDoorR01
import Derived.Test.YtjlgejennghhlaaGreatDoorR25
set_option linter.unusedSimpArgs false
set_option linter.unusedVariables false
set_option linter.unusedSectionVars false
set_option maxRecDepth 1000000
set_option maxHeartbeats 16000000
namespace Go.Proofs.YtjlgejennghhlaaGreatDoor.Fw
open Go.RowKit
theorem Qop (at_:Nat) (outs:List By) (retry:Int) (vo:Value) (K R:Nat) (ts:List Tk) (w:World) (h:RD w R ts) (hK:Box w K [.int .i64 (at_:Nat),.int .i64 0,vo,.slice none 0 0,.slice none 0 0,.string ⟨#[]⟩,.string ⟨#[]⟩,.int .i64 0,.int .i64 0,.string ⟨#[]⟩,.string ⟨#[]⟩,.int .i64 0,.int .i64 0,.string ⟨#[]⟩,.int .i64 retry]) (bH:R<K) (aO:∀c t,Qci ts=.ok (c,t)->c=5):
 Calls Tryz.prog 117 #[.pointer (some ⟨R,0,none⟩),.pointer (some ⟨K,0,none⟩)] w fun e w'=>Qgh (Qca at_ outs retry ts) vo K e w.heap.size w' R/\But2 R K w w':=by
 obtain⟨i0,hi,a4,be,a8⟩:=info_parts Tryz.infoStr;have hR:=h.lt;have bF:=hK.lt;have H0:=Hk h;have B0:=Hk (But2.refl R K w);have X0:=Hk hK;have E0:=Hk (Qca.eq_1 at_ outs retry ts);clear h hK;go_enter Tryz.func117,Tryz.ntmps117;go_wp2_with (go_at_call 154;fail);refine(QbL R ts _ H0.out).mono ?_;rintro e w1 ⟨⟨a1,bf,v,y,rfl,hv,D⟩|⟨er,y,I⟩,U⟩
 rotate_left
 ·obtain⟨b',rfl,Z,t1,tB,tl⟩:=I;have HP:=Hk (Qaf E0.out y);clear y;go_wp2;exact⟨rfl,Or.inr ⟨_,HP.out,b',rfl,Z,t1,Nat.le_trans B0.out.size tB,tl⟩,B0.out.then U⟩
 unfold encI at hv;subst hv;have bi:=aO _ _ y;subst bi;have he:=bind_ok E0.out y
 dsimp only at he
 have E1:=Hk he;clear he y;have H2:=Hk D;have B3:=Hk (B0.out.then U);have H:=Hk (X0.out.but U (by omega));have q5:=H.out.lt;have a6:=U.size
 try simp only[World.size_alloc,Qac] at a6
 clear H0 B0 X0 E0 D U;clear aO;have bA:=H.out.cell 1 rfl;have bB:=H.out.fz 1;have bC:=H.out.lt;have aP:=Hk (H2.out.set (k:=K) (i:=1) (v:=.int .i64 5) (by omega));have am:=Hk (B3.out.put (k:=K) (i:=1) (by omega) (.int .i64 5));have aM:Hid (Box (w1.setCell ⟨K,1,none⟩ (.int .i64 5)) K [.int .i64 (at_:Nat),.int .i64 5,vo,.slice none 0 0,.slice none 0 0,.string ⟨#[]⟩,.string ⟨#[]⟩,.int .i64 0,.int .i64 0,.string ⟨#[]⟩,.string ⟨#[]⟩,.int .i64 0,.int .i64 0,.string ⟨#[]⟩,.int .i64 retry]):=Hk (H.out.set 1 (.int .i64 5));clear H2 B3 H;go_wp2_with (go_at_call 112;fail);refine(Qav R bf _ aP.out).mono ?_;rintro e E ⟨⟨a2,bh,v,y,rfl,hv,D⟩|⟨er,y,I⟩,O⟩
 rotate_left
 ·obtain⟨b',rfl,Z,t1,tB,tl⟩:=I;have HP:=Hk (Qaf E1.out y);clear y;go_wp2;exact⟨rfl,Or.inr ⟨_,HP.out,b',rfl,Z,t1,Nat.le_trans am.out.size tB,tl⟩,am.out.then O⟩
 unfold encS at hv;subst hv;have he:=bind_ok E1.out y
 dsimp only at he
 have aN:=Hk he;clear he y;have aH:=Hk D;have aQ:=Hk (am.out.then O);have F:=Hk (aM.out.but O (by omega));have bD:=F.out.lt;have aX:=O.size
 try simp only[World.size_alloc,Qac] at aX
 clear aP am aM E1 D O;have bw:=F.out.cell 1 rfl;have bo:=F.out.cell 3 rfl;have bp:=F.out.fz 3;have bq:=F.out.lt;have aI:=Hk (aH.out.set (k:=K) (i:=3) (v:=.slice (some ⟨E.heap.size,0,none⟩) 1 1) (by omega));have ak:=Hk (aQ.out.put (k:=K) (i:=3) (by omega) (.slice (some ⟨E.heap.size,0,none⟩) 1 1));have aG:Hid (Box (E.setCell ⟨K,3,none⟩ (.slice (some ⟨E.heap.size,0,none⟩) 1 1)) K [.int .i64 (at_:Nat),.int .i64 5,vo,.slice (some ⟨E.heap.size,0,none⟩) 1 1,.slice none 0 0,.string ⟨#[]⟩,.string ⟨#[]⟩,.int .i64 0,.int .i64 0,.string ⟨#[]⟩,.string ⟨#[]⟩,.int .i64 0,.int .i64 0,.string ⟨#[]⟩,.int .i64 retry]):=Hk (F.out.set 3 (.slice (some ⟨E.heap.size,0,none⟩) 1 1));clear aH aQ F;have aR:=Hk (aI.out.below (Qaa _ (.cells #[.string (ba a2)] 9)));have ah:=Hk (ak.out.box (.cells #[.string (ba a2)] 9));have aE:=Hk (aG.out.below (Qaa _ (.cells #[.string (ba a2)] 9)));have aS:=Hk (Qbu (E.setCell ⟨K,3,none⟩ (.slice (some ⟨E.heap.size,0,none⟩) 1 1)) w.heap.size 9 (Qcl [a2]) 1 E.heap.size rfl (ak.out.size) (Qac _ _ _).symm);have av:=ak.out.size;simp only[Qac] at av;clear aI ak aG;have he:=aN.out;rw[if_neg (by decide),if_neg (by decide),if_neg (by decide),if_pos (by decide)] at he;have au:=Hk he;clear he aN;go_wp2_with (go_at_call 111;fail);refine(QaK [44] R bh _ aR.out (by decide)).mono ?_;rintro e w3 ⟨⟨a3,ap,v,y,rfl,hv,D⟩|⟨er,y,I⟩,M⟩
 rotate_left
 ·obtain⟨b',rfl,Z,t1,tB,tl⟩:=I;have HP:=Hk (Qaf au.out y);clear y;go_wp2;exact⟨rfl,Or.inr ⟨_,HP.out,b',rfl,Z,t1,Nat.le_trans ah.out.size tB,tl⟩,ah.out.then M⟩
 subst hv;have he:=bind_ok au.out y
 dsimp only at he
 have aK:=Hk he;clear he y;have aF:=Hk D;have ax:=Hk (ah.out.then M);have N:=Hk (aE.out.but M (by omega));have bz:=N.out.lt;have bg:=Hk (Qam aS.out M (by omega));have aT:=M.size
 try simp only[World.size_alloc,Qac] at aT
 clear aR ah aE aS au D M;have bs:=N.out.cell 3 rfl;have bx:=N.out.fz 3;have br:=N.out.lt;go_wp2_with fail
 cases hcp:Qbe ap with
 |error er=>
  have HP:=Hk (Qaf aK.out hcp);have HC:=Hk (Qav R ap _ aF.out.drew);rw[hcp] at HC;refine wp_region_held_drew (S:=fun V=>V.cell? ⟨K,3,none⟩=some (.slice (some ⟨E.heap.size,0,none⟩) 1 1)) (by kernel_rfl) (N.out.cell 3 rfl) (fun hHeld=>?_);refine wpAnyH_take (i:=0) (v:=.pointer (some ⟨K,0,none⟩)) rfl (by kernel_rfl) (by kernel_rfl) (by kernel_rfl) (fun _ _ _ h=>h) (Or.inl ⟨by rfl,?_⟩) (by assumption) ?_
  ·intro V hV;go_simp
  simp only[List.getElem_toArray,List.getElem_cons_zero,List.getElem_cons_succ,Act.put,List.setIfInBounds_toArray,List.set_cons_zero,List.set_cons_succ];refine wpAnyH_take (i:=1) (v:=.pointer (some ⟨K,0,none⟩)) rfl (by kernel_rfl) (by kernel_rfl) (by kernel_rfl) (fun _ _ _ h=>h) (Or.inl ⟨by rfl,?_⟩) (by assumption) ?_
  ·intro V hV;go_simp
  simp only[List.getElem_toArray,List.getElem_cons_zero,List.getElem_cons_succ,Act.put,List.setIfInBounds_toArray,List.set_cons_zero,List.set_cons_succ];refine wpAnyH_take (i:=2) (v:=.pointer (some ⟨K,0,none⟩)) rfl (by kernel_rfl) (by kernel_rfl) (by kernel_rfl) (fun _ _ _ h=>h) (Or.inl ⟨by rfl,?_⟩) (by assumption) ?_
  ·intro V hV;go_simp
  simp only[List.getElem_toArray,List.getElem_cons_zero,List.getElem_cons_succ,Act.put,List.setIfInBounds_toArray,List.set_cons_zero,List.set_cons_succ];refine wpAnyH_take (i:=3) (v:=.pointer (some ⟨K,3,none⟩)) rfl (by kernel_rfl) (by kernel_rfl) (by kernel_rfl) (fun _ _ _ h=>h) (Or.inl ⟨by rfl,?_⟩) (by assumption) ?_
  ·intro V hV;go_simp
  simp only[List.getElem_toArray,List.getElem_cons_zero,List.getElem_cons_succ,Act.put,List.setIfInBounds_toArray,List.set_cons_zero,List.set_cons_succ];refine wpAnyH_take (i:=4) (v:=.slice (some ⟨E.heap.size,0,none⟩) 1 1) rfl (by kernel_rfl) (by kernel_rfl) (by kernel_rfl) (fun _ _ _ h=>h) (Or.inl ⟨by rfl,?_⟩) (by assumption) ?_
  ·intro V hV;go_simp
  simp only[List.getElem_toArray,List.getElem_cons_zero,List.getElem_cons_succ,Act.put,List.setIfInBounds_toArray,List.set_cons_zero,List.set_cons_succ];refine wpAnyH_take (i:=5) (v:=.pointer (some ⟨R,0,none⟩)) rfl (by kernel_rfl) (by kernel_rfl) (by kernel_rfl) (fun _ _ _ h=>h) (Or.inl ⟨by rfl,?_⟩) (by assumption) ?_
  ·intro V hV;go_simp
  simp only[List.getElem_toArray,List.getElem_cons_zero,List.getElem_cons_succ,Act.put,List.setIfInBounds_toArray,List.set_cons_zero,List.set_cons_succ];refine wpAnyH_ready (rs:=[6]) (by kernel_rfl) (by simp) ?_;refine AllReadyH.cons rfl (fun K hK=>?_) AllReadyH.nil;go_simp;refine HC.out.mono ?_;rintro e wt ⟨al,aY⟩;obtain⟨b',rfl,Z,t1,tB,tl⟩:=al.err;go_wp2;exact⟨rfl,Or.inr ⟨_,HP.out,b',rfl,Z,t1,Nat.le_trans ax.out.size tB,tl⟩,ax.out.drew.then aY⟩
 |ok z=>
  obtain⟨a,tn⟩:=z;have HC:=Hk (Qav R ap _ aF.out.drew);rw[hcp] at HC;have a5:=Hk hcp;clear hcp;have EN:=Hk (bind_ok aK.out a5.out);go_region_law (first|(go_simp;go_at_call 112;refine HC.out.mono ?_;rintro e ai ⟨al,ao⟩;obtain⟨ve,rfl,aJ,aq⟩:=al.ok;unfold encS at aJ;subst aJ;have H:=(N.out.block (w':=w3.drew) rfl).but ao (by omega);have c4:=H.cell 3 rfl;have l4:=H.lt;have a7:=Hk aq;have aL:=Hk (ax.out.drew.then ao);have bG:=aL.out.size;have ag:=Hk ((Qam (bg.out.drew) ao (by omega)).alloc (.cells #[.string (ba a)] 9));have bj:=Hk H;clear al ao aq H)|(refine step_append_lies _ (by rfl) _ _ _ (by rfl) (w.heap.size) 9 i0 _ 1 16 Tryz.underlying44 hi a4 be a8 rfl (by omega) (.slice (some ⟨E.heap.size,0,none⟩) 1 1) (1) _ (by rfl) ag.out ⟨ai.heap.size,0,none⟩ 1 1 [.string (ba a)] (by rfl) (by rfl) (Qcb ai [.string (ba a)] 9 _ rfl) (by simp[Value.oneCell']) (by omega) (by unfold maxLen;omega) (by omega) (by simp;omega) (ai.heap.size+1) (by simp) ?_;intro gg bI bE aj J aW bu;have X5:=Hk ((bj.out.below (Qaa ai (.cells #[.string (ba a)] 9))).grown J (by intro e;have:=ag.out.lt _ e;omega));have c5:=X5.out.cell 3 rfl;have f5:=X5.out.fz 3;have l5:=X5.out.lt;have aD:=Hk J;have aZ:=Hk aj;clear aW;clear J aj))
  all_goals
   (go_wp2
    go_end0
    exact⟨Or.inl ⟨_,_,_,.slice none 0 0,EN.out,rfl,(((a7.out.below (Qaa _ _)).grown aD.out (fun q hq=>by have:=ag.out.lt q hq;omega)).set (by omega)),(X5.out.set _ _),(ownsRow_setCell_below (aZ.out) (a:=⟨K,3,none⟩) (by show K<_;omega) _),World.ownsRow_nil _ _ _ _⟩,(((aL.out.box _).grown aD.out (fun q hq=>by have:=ag.out.lt q hq;omega)).put (by omega) _)⟩)
theorem Qoq (at_:Nat) (outs:List By) (retry:Int) (vo:Value) (K R:Nat) (ts:List Tk) (w:World) (h:RD w R ts) (hK:Box w K [.int .i64 (at_:Nat),.int .i64 0,vo,.slice none 0 0,.slice none 0 0,.string ⟨#[]⟩,.string ⟨#[]⟩,.int .i64 0,.int .i64 0,.string ⟨#[]⟩,.string ⟨#[]⟩,.int .i64 0,.int .i64 0,.string ⟨#[]⟩,.int .i64 retry]) (cA:R<K) (bs:∀c t,Qci ts=.ok (c,t)->c=8):
 Calls Tryz.prog 117 #[.pointer (some ⟨R,0,none⟩),.pointer (some ⟨K,0,none⟩)] w fun e w'=>Qgh (Qca at_ outs retry ts) vo K e w.heap.size w' R/\But2 R K w w':=by
 obtain⟨i0,hi,bM,b0,bT⟩:=info_parts Tryz.infoStr;have hR:=h.lt;have cy:=hK.lt;have H0:=Hk h;have B0:=Hk (But2.refl R K w);have X0:=Hk hK;have E0:=Hk (Qca.eq_1 at_ outs retry ts);clear h hK;go_enter Tryz.func117,Tryz.ntmps117;go_wp2_with (go_at_call 154;fail);refine(QbL R ts _ H0.out).mono ?_;rintro e w1 ⟨⟨a1,b1,v,y,rfl,J,E⟩|⟨er,y,F⟩,am⟩
 rotate_left
 ·obtain⟨b',rfl,O,t1,tB,tl⟩:=F;have HP:=Hk (Qaf E0.out y);clear y;go_wp2;exact⟨rfl,Or.inr ⟨_,HP.out,b',rfl,O,t1,Nat.le_trans B0.out.size tB,tl⟩,B0.out.then am⟩
 unfold encI at J;subst J;have b3:=bs _ _ y;subst b3;have he:=bind_ok E0.out y
 dsimp only at he
 have E1:=Hk he;clear he y;have H2:=Hk E;have B3:=Hk (B0.out.then am);have Z:=Hk (X0.out.but am (by omega));have q5:=Z.out.lt;have bQ:=am.size
 try simp only[World.size_alloc,Qac] at bQ
 clear H0 B0 X0 E0 E am;clear bs;have cr:=Z.out.cell 1 rfl;have ct:=Z.out.fz 1;have cv:=Z.out.lt;have bt:=Hk (H2.out.set (k:=K) (i:=1) (v:=.int .i64 8) (by omega));have ay:=Hk (B3.out.put (k:=K) (i:=1) (by omega) (.int .i64 8));have bg:Hid (Box (w1.setCell ⟨K,1,none⟩ (.int .i64 8)) K [.int .i64 (at_:Nat),.int .i64 8,vo,.slice none 0 0,.slice none 0 0,.string ⟨#[]⟩,.string ⟨#[]⟩,.int .i64 0,.int .i64 0,.string ⟨#[]⟩,.string ⟨#[]⟩,.int .i64 0,.int .i64 0,.string ⟨#[]⟩,.int .i64 retry]):=Hk (Z.out.set 1 (.int .i64 8));clear H2 B3 Z;go_wp2_with (go_at_call 112;fail);refine(Qav R b1 _ bt.out).mono ?_;rintro e M ⟨⟨a2,b2,v,y,rfl,J,E⟩|⟨er,y,F⟩,ai⟩
 rotate_left
 ·obtain⟨b',rfl,O,t1,tB,tl⟩:=F;have HP:=Hk (Qaf E1.out y);clear y;go_wp2;exact⟨rfl,Or.inr ⟨_,HP.out,b',rfl,O,t1,Nat.le_trans ay.out.size tB,tl⟩,ay.out.then ai⟩
 unfold encS at J;subst J;have he:=bind_ok E1.out y
 dsimp only at he
 have bh:=Hk he;clear he y;have aX:=Hk E;have bu:=Hk (ay.out.then ai);have U:=Hk (bg.out.but ai (by omega));have cw:=U.out.lt;have bH:=ai.size
 try simp only[World.size_alloc,Qac] at bH
 clear bt ay bg E1 E ai;have cn:=U.out.cell 1 rfl;have b8:=U.out.cell 3 rfl;have cb:=U.out.fz 3;have ce:=U.out.lt;have a6:=Hk (aX.out.set (k:=K) (i:=3) (v:=.slice (some ⟨M.heap.size,0,none⟩) 1 1) (by omega));have aw:=Hk (bu.out.put (k:=K) (i:=3) (by omega) (.slice (some ⟨M.heap.size,0,none⟩) 1 1));have aW:Hid (Box (M.setCell ⟨K,3,none⟩ (.slice (some ⟨M.heap.size,0,none⟩) 1 1)) K [.int .i64 (at_:Nat),.int .i64 8,vo,.slice (some ⟨M.heap.size,0,none⟩) 1 1,.slice none 0 0,.string ⟨#[]⟩,.string ⟨#[]⟩,.int .i64 0,.int .i64 0,.string ⟨#[]⟩,.string ⟨#[]⟩,.int .i64 0,.int .i64 0,.string ⟨#[]⟩,.int .i64 retry]):=Hk (U.out.set 3 (.slice (some ⟨M.heap.size,0,none⟩) 1 1));clear aX bu U;have bv:=Hk (a6.out.below (Qaa _ (.cells #[.string (ba a2)] 9)));have ap:=Hk (aw.out.box (.cells #[.string (ba a2)] 9));have aS:=Hk (aW.out.below (Qaa _ (.cells #[.string (ba a2)] 9)));have bx:=Hk (Qbu (M.setCell ⟨K,3,none⟩ (.slice (some ⟨M.heap.size,0,none⟩) 1 1)) w.heap.size 9 (Qcl [a2]) 1 M.heap.size rfl (aw.out.size) (Qac _ _ _).symm);have aI:=aw.out.size;simp only[Qac] at aI;clear a6 aw aW;have he:=bh.out;rw[if_neg (by decide),if_neg (by decide),if_neg (by decide),if_neg (by decide),if_neg (by decide),if_pos (by decide)] at he;have aH:=Hk he;clear he bh;go_wp2_with (go_at_call 111;fail);refine(QaK wBy R b2 _ bv.out (by decide)).mono ?_;rintro e w3 ⟨⟨a3,bN,v,y,rfl,J,E⟩|⟨er,y,F⟩,ah⟩
 rotate_left
 ·obtain⟨b',rfl,O,t1,tB,tl⟩:=F;have HP:=Hk (Qaf aH.out y);clear y;go_wp2;exact⟨rfl,Or.inr ⟨_,HP.out,b',rfl,O,t1,Nat.le_trans ap.out.size tB,tl⟩,ap.out.then ah⟩
 subst J;have he:=bind_ok aH.out y
 dsimp only at he
 have aD:=Hk he;clear he y;have aT:=Hk E;have az:=Hk (ap.out.then ah);have aJ:=Hk (aS.out.but ah (by omega));have cq:=aJ.out.lt;have bz:=Hk (Qam bx.out ah (by omega));have bC:=ah.size
 try simp only[World.size_alloc,Qac] at bC
 clear bv ap aS bx aH E ah;go_wp2_with (go_at_call 112;fail);refine(Qav R bN _ aT.out).mono ?_;rintro e D ⟨⟨a4,bY,v,y,rfl,J,E⟩|⟨er,y,F⟩,H⟩
 rotate_left
 ·obtain⟨b',rfl,O,t1,tB,tl⟩:=F;have HP:=Hk (Qaf aD.out y);clear y;go_wp2;exact⟨rfl,Or.inr ⟨_,HP.out,b',rfl,O,t1,Nat.le_trans az.out.size tB,tl⟩,az.out.then H⟩
 unfold encS at J;subst J;have he:=bind_ok aD.out y
 dsimp only at he
 have aK:=Hk he;clear he y;have bA:=Hk E;have a7:=Hk (az.out.then H);have N:=Hk (aJ.out.but H (by omega));have cu:=N.out.lt;have be:=Hk (Qam bz.out H (by omega));have bD:=H.size
 try simp only[World.size_alloc,Qac] at bD
 clear aT az aJ bz aD E H;have co:=N.out.cell 1 rfl;have cp:=N.out.cell 4 rfl;have cd:=N.out.fz 4;have cc:=N.out.lt;have bn:=Hk (bA.out.set (k:=K) (i:=4) (v:=.slice (some ⟨D.heap.size,0,none⟩) 1 1) (by omega));have ar:=Hk (a7.out.put (k:=K) (i:=4) (by omega) (.slice (some ⟨D.heap.size,0,none⟩) 1 1));have bj:Hid (Box (D.setCell ⟨K,4,none⟩ (.slice (some ⟨D.heap.size,0,none⟩) 1 1)) K [.int .i64 (at_:Nat),.int .i64 8,vo,.slice (some ⟨M.heap.size,0,none⟩) 1 1,.slice (some ⟨D.heap.size,0,none⟩) 1 1,.string ⟨#[]⟩,.string ⟨#[]⟩,.int .i64 0,.int .i64 0,.string ⟨#[]⟩,.string ⟨#[]⟩,.int .i64 0,.int .i64 0,.string ⟨#[]⟩,.int .i64 retry]):=Hk (N.out.set 4 (.slice (some ⟨D.heap.size,0,none⟩) 1 1));have bo:=Hk (ownsRow_setCell_below be.out (a:=⟨K,4,none⟩) (by show K<_;omega) (.slice (some ⟨D.heap.size,0,none⟩) 1 1));clear bA a7 N be;have bp:=Hk (bn.out.below (Qaa _ (.cells #[.string (ba a4)] 9)));have bf:=Hk (ar.out.box (.cells #[.string (ba a4)] 9));have aU:=Hk (bj.out.below (Qaa _ (.cells #[.string (ba a4)] 9)));have bq:=Hk (Qbu (D.setCell ⟨K,4,none⟩ (.slice (some ⟨D.heap.size,0,none⟩) 1 1)) w.heap.size 9 (Qcl [a4]) 1 D.heap.size rfl (ar.out.size) (Qac _ _ _).symm);have br:=Hk (bo.out.alloc (.cells #[.string (ba a4)] 9));have aM:=ar.out.size;simp only[Qac] at aM;clear bn ar bj bo;have bk:=Hk (bp.out.below (Qaa _ (.cells #[.string ⟨#[115,117,109]⟩,.string ⟨#[109,97,120]⟩] 9)));have au:=Hk (bf.out.box (.cells #[.string ⟨#[115,117,109]⟩,.string ⟨#[109,97,120]⟩] 9));have bi:=Hk (aU.out.below (Qaa _ (.cells #[.string ⟨#[115,117,109]⟩,.string ⟨#[109,97,120]⟩] 9)));have aY:=Hk (br.out.alloc (.cells #[.string ⟨#[115,117,109]⟩,.string ⟨#[109,97,120]⟩] 9));have bb:=Hk (bq.out.alloc (.cells #[.string ⟨#[115,117,109]⟩,.string ⟨#[109,97,120]⟩] 9));clear bp bf aU br bq;have bG:Hid (Qdl (((D.setCell ⟨K,4,none⟩ (.slice (some ⟨D.heap.size,0,none⟩) 1 1)).alloc (.cells #[.string (ba a4)] 9)).alloc (.cells #[.string ⟨#[115,117,109]⟩,.string ⟨#[109,97,120]⟩] 9)) (.slice (some ⟨D.heap.size+1,0,none⟩) 2 2) [wSum,Qqg]):=Hk (Qef ((D.setCell ⟨K,4,none⟩ (.slice (some ⟨D.heap.size,0,none⟩) 1 1)).alloc (.cells #[.string (ba a4)] 9)) [wSum,Qqg] (by decide) (D.heap.size+1) (by simp only[World.size_alloc,Qac]));go_wp2_with (go_at_call 155;fail);refine(Qdu (.slice (some ⟨D.heap.size+1,0,none⟩) 2 2) [wSum,Qqg] R bY (((D.setCell ⟨K,4,none⟩ (.slice (some ⟨D.heap.size,0,none⟩) 1 1)).alloc (.cells #[.string (ba a4)] 9)).alloc (.cells #[.string ⟨#[115,117,109]⟩,.string ⟨#[109,97,120]⟩] 9)) bk.out bG.out (by decide)).mono ?_;rintro e w5 ⟨⟨a5,aC,v,y,rfl,J,E⟩|⟨er,y,F⟩,ae⟩
 rotate_left
 ·obtain⟨b',rfl,O,t1,tB,tl⟩:=F;have HP:=Hk (Qaf aK.out y);clear y;go_wp2;exact⟨rfl,Or.inr ⟨_,HP.out,b',rfl,O,t1,Nat.le_trans au.out.size tB,tl⟩,au.out.then ae⟩
 unfold encS at J;subst J;have he:=bind_ok aK.out y
 dsimp only at he
 have a8:=Hk he;clear he y;have aZ:=Hk E;have bw:=Hk (au.out.then ae);have ag:=Hk (bi.out.but ae (by omega));have cC:=ag.out.lt;have aV:=Hk (Qam aY.out ae (by omega));have a0:=Hk (Qam bb.out ae (by omega));have bB:=ae.size
 try simp only[World.size_alloc,Qac] at bB
 clear bk au bi aY bb aK E ae;have b6:=ag.out.cell 5 rfl;have ck:=ag.out.fz 5;have ca:=ag.out.lt;have bm:=Hk (aZ.out.set (k:=K) (i:=5) (v:=.string (ba a5)) (by omega));have aB:=Hk (bw.out.put (k:=K) (i:=5) (by omega) (.string (ba a5)));have al:Hid (Box (w5.setCell ⟨K,5,none⟩ (.string (ba a5))) K [.int .i64 (at_:Nat),.int .i64 8,vo,.slice (some ⟨M.heap.size,0,none⟩) 1 1,.slice (some ⟨D.heap.size,0,none⟩) 1 1,.string (ba a5),.string ⟨#[]⟩,.int .i64 0,.int .i64 0,.string ⟨#[]⟩,.string ⟨#[]⟩,.int .i64 0,.int .i64 0,.string ⟨#[]⟩,.int .i64 retry]):=Hk (ag.out.set 5 (.string (ba a5)));have bJ:=Hk (ownsRow_setCell_below aV.out (a:=⟨K,5,none⟩) (by show K<_;omega) (.string (ba a5)));have bS:=Hk (ownsRow_setCell_below a0.out (a:=⟨K,5,none⟩) (by show K<_;omega) (.string (ba a5)));clear aZ bw ag aV a0;have ch:=al.out.cell 4 rfl;have b9:=al.out.fz 4;have ci:=al.out.lt;go_wp2_with fail
 cases hcp:Qbe aC with
 |error er=>
  have HP:=Hk (Qaf a8.out hcp);have HC:=Hk (Qav R aC _ bm.out.drew);rw[hcp] at HC;refine wp_region_held_drew (S:=fun V=>V.cell? ⟨K,4,none⟩=some (.slice (some ⟨D.heap.size,0,none⟩) 1 1)) (by kernel_rfl) (al.out.cell 4 rfl) (fun hHeld=>?_);refine wpAnyH_take (i:=0) (v:=.pointer (some ⟨K,0,none⟩)) rfl (by kernel_rfl) (by kernel_rfl) (by kernel_rfl) (fun _ _ _ h=>h) (Or.inl ⟨by rfl,?_⟩) (by assumption) ?_
  ·intro V hV;go_simp
  simp only[List.getElem_toArray,List.getElem_cons_zero,List.getElem_cons_succ,Act.put,List.setIfInBounds_toArray,List.set_cons_zero,List.set_cons_succ];refine wpAnyH_take (i:=1) (v:=.pointer (some ⟨K,0,none⟩)) rfl (by kernel_rfl) (by kernel_rfl) (by kernel_rfl) (fun _ _ _ h=>h) (Or.inl ⟨by rfl,?_⟩) (by assumption) ?_
  ·intro V hV;go_simp
  simp only[List.getElem_toArray,List.getElem_cons_zero,List.getElem_cons_succ,Act.put,List.setIfInBounds_toArray,List.set_cons_zero,List.set_cons_succ];refine wpAnyH_take (i:=2) (v:=.pointer (some ⟨K,0,none⟩)) rfl (by kernel_rfl) (by kernel_rfl) (by kernel_rfl) (fun _ _ _ h=>h) (Or.inl ⟨by rfl,?_⟩) (by assumption) ?_
  ·intro V hV;go_simp
  simp only[List.getElem_toArray,List.getElem_cons_zero,List.getElem_cons_succ,Act.put,List.setIfInBounds_toArray,List.set_cons_zero,List.set_cons_succ];refine wpAnyH_take (i:=3) (v:=.pointer (some ⟨K,4,none⟩)) rfl (by kernel_rfl) (by kernel_rfl) (by kernel_rfl) (fun _ _ _ h=>h) (Or.inl ⟨by rfl,?_⟩) (by assumption) ?_
  ·intro V hV;go_simp
  simp only[List.getElem_toArray,List.getElem_cons_zero,List.getElem_cons_succ,Act.put,List.setIfInBounds_toArray,List.set_cons_zero,List.set_cons_succ];refine wpAnyH_take (i:=4) (v:=.slice (some ⟨D.heap.size,0,none⟩) 1 1) rfl (by kernel_rfl) (by kernel_rfl) (by kernel_rfl) (fun _ _ _ h=>h) (Or.inl ⟨by rfl,?_⟩) (by assumption) ?_
  ·intro V hV;go_simp
  simp only[List.getElem_toArray,List.getElem_cons_zero,List.getElem_cons_succ,Act.put,List.setIfInBounds_toArray,List.set_cons_zero,List.set_cons_succ];refine wpAnyH_take (i:=5) (v:=.pointer (some ⟨R,0,none⟩)) rfl (by kernel_rfl) (by kernel_rfl) (by kernel_rfl) (fun _ _ _ h=>h) (Or.inl ⟨by rfl,?_⟩) (by assumption) ?_
  ·intro V hV;go_simp
  simp only[List.getElem_toArray,List.getElem_cons_zero,List.getElem_cons_succ,Act.put,List.setIfInBounds_toArray,List.set_cons_zero,List.set_cons_succ];refine wpAnyH_ready (rs:=[6]) (by kernel_rfl) (by simp) ?_;refine AllReadyH.cons rfl (fun K hK=>?_) AllReadyH.nil;go_simp;refine HC.out.mono ?_;rintro e wt ⟨ax,bI⟩;obtain⟨b',rfl,O,t1,tB,tl⟩:=ax.err;go_wp2;exact⟨rfl,Or.inr ⟨_,HP.out,b',rfl,O,t1,Nat.le_trans aB.out.size tB,tl⟩,aB.out.drew.then bI⟩
 |ok z=>
  obtain⟨a,tn⟩:=z;have HC:=Hk (Qav R aC _ bm.out.drew);rw[hcp] at HC;have bP:=Hk hcp;clear hcp;have EN:=Hk (bind_ok a8.out bP.out);go_region_law (first|(go_simp;go_at_call 112;refine HC.out.mono ?_;rintro e aq ⟨ax,H⟩;obtain⟨ve,rfl,a9,aE⟩:=ax.ok;unfold encS at a9;subst a9;have Z:=(al.out.block (w':=(w5.setCell ⟨K,5,none⟩ (.string (ba a5))).drew) rfl).but H (by omega);have c4:=Z.cell 4 rfl;have l4:=Z.lt;have bR:=Hk aE;have bd:=Hk (aB.out.drew.then H);have cz:=bd.out.size;have ao:=Hk ((Qam (bS.out.drew) H (by omega)).alloc (.cells #[.string (ba a)] 9));have bO:=Hk Z;have bX:=Hk ((Qam (bJ.out.drew) H (by omega)).alloc (.cells #[.string (ba a)] 9));clear ax H aE Z)|(refine step_append_lies _ (by rfl) _ _ _ (by rfl) (w.heap.size) 9 i0 _ 1 16 Tryz.underlying44 hi bM b0 bT rfl (by omega) (.slice (some ⟨D.heap.size,0,none⟩) 1 1) (1) _ (by rfl) ao.out ⟨aq.heap.size,0,none⟩ 1 1 [.string (ba a)] (by rfl) (by rfl) (Qcb aq [.string (ba a)] 9 _ rfl) (by simp[Value.oneCell']) (by omega) (by unfold maxLen;omega) (by omega) (by simp;omega) (aq.heap.size+1) (by simp) ?_;intro gg cB cx av I aF cg;have X5:=Hk ((bO.out.below (Qaa aq (.cells #[.string (ba a)] 9))).grown I (by intro e;have:=ao.out.lt _ e;omega));have c5:=X5.out.cell 4 rfl;have f5:=X5.out.fz 4;have l5:=X5.out.lt;have aR:=Hk I;have bK:=Hk av;have cm:=Hk aF;have bV:=Hk (bX.out.kept I (Or.inr (by intro e;simp[Value.ownBlock] at e;omega)));clear aF;clear I av))
  all_goals
   (go_wp2
    go_end0
    exact⟨Or.inl ⟨_,_,.slice (some ⟨M.heap.size,0,none⟩) 1 1,_,EN.out,rfl,(((bR.out.below (Qaa _ _)).grown aR.out (fun q hq=>by have:=ao.out.lt q hq;omega)).set (by omega)),(X5.out.set _ _),(ownsRow_setCell_below bV.out (a:=⟨K,4,none⟩) (by show K<_;omega) _),(ownsRow_setCell_below (bK.out) (a:=⟨K,4,none⟩) (by show K<_;omega) _)⟩,(((bd.out.box _).grown aR.out (fun q hq=>by have:=ao.out.lt q hq;omega)).put (by omega) _)⟩)
end Go.Proofs.YtjlgejennghhlaaGreatDoor.Fw
