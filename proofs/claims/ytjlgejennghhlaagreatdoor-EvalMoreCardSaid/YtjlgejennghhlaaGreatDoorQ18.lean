import Derived.Test.YtjlgejennghhlaaGreatDoorQ01
import Derived.Test.YtjlgejennghhlaaGreatDoorQ16
set_option linter.unusedSimpArgs false
set_option linter.unusedVariables false
set_option linter.unusedSectionVars false
set_option maxRecDepth 1000000
set_option maxHeartbeats 16000000
namespace Go.Proofs.YtjlgejennghhlaaGreatDoor.Fw
open Go.RowKit
theorem Qog (at_:Nat) (outs:List By) (retry:Int) (vo:Value) (K R:Nat) (ts:List Tk) (w:World) (h:RD w R ts) (hK:Box w K [.int .i64 (at_:Nat),.int .i64 0,vo,.slice none 0 0,.slice none 0 0,.string ⟨#[]⟩,.string ⟨#[]⟩,.int .i64 0,.int .i64 0,.string ⟨#[]⟩,.string ⟨#[]⟩,.int .i64 0,.int .i64 0,.string ⟨#[]⟩,.int .i64 retry]) (bI:R<K) (aP:∀c t,Qch ts=.ok (c,t)->c=5):
 Calls Tryz.prog 117 #[.pointer (some ⟨R,0,none⟩),.pointer (some ⟨K,0,none⟩)] w fun e w'=>Qgf (Qb8 at_ outs retry ts) vo K e w.heap.size w' R/\But2 R K w w':=by
 obtain⟨i0,hi,a5,bf,a9⟩:=info_parts Tryz.infoStr;have hR:=h.lt;have bG:=hK.lt;have H0:=Hk h;have B0:=Hk (But2.refl R K w);have X0:=Hk hK;have E0:=Hk (Qb8.eq_1 at_ outs retry ts);clear h hK;go_enter Tryz.func117,Tryz.ntmps117;go_wp2_with (go_at_call 154;fail);refine(QbI R ts _ H0.out).mono ?_;rintro e w1 ⟨⟨a1,bg,v,y,rfl,hv,D⟩|⟨er,y,J⟩,Z⟩
 rotate_left
 ·obtain⟨b',rfl,t0,t1,tB,tl⟩:=J;have HP:=Hk (Qaf E0.out y);clear y;go_wp2;exact⟨rfl,Or.inr ⟨_,HP.out,b',rfl,t0,t1,Nat.le_trans B0.out.size tB,tl⟩,B0.out.then Z⟩
 unfold encI at hv;subst hv;have bj:=aP _ _ y;subst bj;have he:=bind_ok E0.out y
 dsimp only at he
 have E1:=Hk he;clear he y;have H2:=Hk D;have B3:=Hk (B0.out.then Z);have I:=Hk (X0.out.but Z (by omega));have q5:=I.out.lt;have a7:=Z.size
 try simp only[World.size_alloc,Qac] at a7
 clear H0 B0 X0 E0 D Z;clear aP;have bB:=I.out.cell 1 rfl;have bC:=I.out.fz 1;have bD:=I.out.lt;have aQ:=Hk (H2.out.set (k:=K) (i:=1) (v:=.int .i64 5) (by omega));have ao:=Hk (B3.out.put (k:=K) (i:=1) (by omega) (.int .i64 5));have aN:Hid (Box (w1.setCell ⟨K,1,none⟩ (.int .i64 5)) K [.int .i64 (at_:Nat),.int .i64 5,vo,.slice none 0 0,.slice none 0 0,.string ⟨#[]⟩,.string ⟨#[]⟩,.int .i64 0,.int .i64 0,.string ⟨#[]⟩,.string ⟨#[]⟩,.int .i64 0,.int .i64 0,.string ⟨#[]⟩,.int .i64 retry]):=Hk (I.out.set 1 (.int .i64 5));clear H2 B3 I;go_wp2_with (go_at_call 112;fail);refine(Qav R bg _ aQ.out).mono ?_;rintro e F ⟨⟨a2,bi,v,y,rfl,hv,D⟩|⟨er,y,J⟩,U⟩
 rotate_left
 ·obtain⟨b',rfl,t0,t1,tB,tl⟩:=J;have HP:=Hk (Qaf E1.out y);clear y;go_wp2;exact⟨rfl,Or.inr ⟨_,HP.out,b',rfl,t0,t1,Nat.le_trans ao.out.size tB,tl⟩,ao.out.then U⟩
 unfold encS at hv;subst hv;have he:=bind_ok E1.out y
 dsimp only at he
 have aO:=Hk he;clear he y;have aI:=Hk D;have aR:=Hk (ao.out.then U);have H:=Hk (aN.out.but U (by omega));have bE:=H.out.lt;have aY:=U.size
 try simp only[World.size_alloc,Qac] at aY
 clear aQ ao aN E1 D U;have bx:=H.out.cell 1 rfl;have bp:=H.out.cell 3 rfl;have bq:=H.out.fz 3;have br:=H.out.lt;have aJ:=Hk (aI.out.set (k:=K) (i:=3) (v:=.slice (some ⟨F.heap.size,0,none⟩) 1 1) (by omega));have al:=Hk (aR.out.put (k:=K) (i:=3) (by omega) (.slice (some ⟨F.heap.size,0,none⟩) 1 1));have aH:Hid (Box (F.setCell ⟨K,3,none⟩ (.slice (some ⟨F.heap.size,0,none⟩) 1 1)) K [.int .i64 (at_:Nat),.int .i64 5,vo,.slice (some ⟨F.heap.size,0,none⟩) 1 1,.slice none 0 0,.string ⟨#[]⟩,.string ⟨#[]⟩,.int .i64 0,.int .i64 0,.string ⟨#[]⟩,.string ⟨#[]⟩,.int .i64 0,.int .i64 0,.string ⟨#[]⟩,.int .i64 retry]):=Hk (H.out.set 3 (.slice (some ⟨F.heap.size,0,none⟩) 1 1));clear aI aR H;have aS:=Hk (aJ.out.below (Qaa _ (.cells #[.string (ba a2)] 9)));have ai:=Hk (al.out.box (.cells #[.string (ba a2)] 9));have aF:=Hk (aH.out.below (Qaa _ (.cells #[.string (ba a2)] 9)));have aT:=Hk (own_new1 (F.setCell ⟨K,3,none⟩ (.slice (some ⟨F.heap.size,0,none⟩) 1 1)) w.heap.size 9 (Qck [a2]) 1 F.heap.size rfl (al.out.size) (Qac _ _ _).symm);have aw:=al.out.size;simp only[Qac] at aw;clear aJ al aH;have he:=aO.out;rw[if_neg (by decide),if_neg (by decide),if_neg (by decide),if_pos (by decide)] at he;have av:=Hk he;clear he aO;go_wp2_with (go_at_call 111;fail);refine(QaK [44] R bi _ aS.out (by decide)).mono ?_;rintro e w3 ⟨⟨a3,aq,v,y,rfl,hv,D⟩|⟨er,y,J⟩,N⟩
 rotate_left
 ·obtain⟨b',rfl,t0,t1,tB,tl⟩:=J;have HP:=Hk (Qaf av.out y);clear y;go_wp2;exact⟨rfl,Or.inr ⟨_,HP.out,b',rfl,t0,t1,Nat.le_trans ai.out.size tB,tl⟩,ai.out.then N⟩
 subst hv;have he:=bind_ok av.out y
 dsimp only at he
 have aL:=Hk he;clear he y;have aG:=Hk D;have ay:=Hk (ai.out.then N);have O:=Hk (aF.out.but N (by omega));have bA:=O.out.lt;have bh:=Hk (Qal aT.out N (by omega));have aU:=N.size
 try simp only[World.size_alloc,Qac] at aU
 clear aS ai aF aT av D N;have bt:=O.out.cell 3 rfl;have bz:=O.out.fz 3;have bs:=O.out.lt;go_wp2_with fail
 cases hcp:Qbd aq with
 |error er=>
  have HP:=Hk (Qaf aL.out hcp);have HC:=Hk (Qav R aq _ aG.out.drew);rw[hcp] at HC;refine wp_region_held_drew (S:=fun V=>V.cell? ⟨K,3,none⟩=some (.slice (some ⟨F.heap.size,0,none⟩) 1 1)) (by kernel_rfl) (O.out.cell 3 rfl) (fun hHeld=>?_);refine wpAnyH_take (i:=0) (v:=.pointer (some ⟨K,0,none⟩)) rfl (by kernel_rfl) (by kernel_rfl) (by kernel_rfl) (fun _ _ _ h=>h) (Or.inl ⟨by rfl,?_⟩) (by assumption) ?_
  ·intro V hV;go_simp
  simp only[List.getElem_toArray,List.getElem_cons_zero,List.getElem_cons_succ,Act.put,List.setIfInBounds_toArray,List.set_cons_zero,List.set_cons_succ];refine wpAnyH_take (i:=1) (v:=.pointer (some ⟨K,0,none⟩)) rfl (by kernel_rfl) (by kernel_rfl) (by kernel_rfl) (fun _ _ _ h=>h) (Or.inl ⟨by rfl,?_⟩) (by assumption) ?_
  ·intro V hV;go_simp
  simp only[List.getElem_toArray,List.getElem_cons_zero,List.getElem_cons_succ,Act.put,List.setIfInBounds_toArray,List.set_cons_zero,List.set_cons_succ];refine wpAnyH_take (i:=2) (v:=.pointer (some ⟨K,0,none⟩)) rfl (by kernel_rfl) (by kernel_rfl) (by kernel_rfl) (fun _ _ _ h=>h) (Or.inl ⟨by rfl,?_⟩) (by assumption) ?_
  ·intro V hV;go_simp
  simp only[List.getElem_toArray,List.getElem_cons_zero,List.getElem_cons_succ,Act.put,List.setIfInBounds_toArray,List.set_cons_zero,List.set_cons_succ];refine wpAnyH_take (i:=3) (v:=.pointer (some ⟨K,3,none⟩)) rfl (by kernel_rfl) (by kernel_rfl) (by kernel_rfl) (fun _ _ _ h=>h) (Or.inl ⟨by rfl,?_⟩) (by assumption) ?_
  ·intro V hV;go_simp
  simp only[List.getElem_toArray,List.getElem_cons_zero,List.getElem_cons_succ,Act.put,List.setIfInBounds_toArray,List.set_cons_zero,List.set_cons_succ];refine wpAnyH_take (i:=4) (v:=.slice (some ⟨F.heap.size,0,none⟩) 1 1) rfl (by kernel_rfl) (by kernel_rfl) (by kernel_rfl) (fun _ _ _ h=>h) (Or.inl ⟨by rfl,?_⟩) (by assumption) ?_
  ·intro V hV;go_simp
  simp only[List.getElem_toArray,List.getElem_cons_zero,List.getElem_cons_succ,Act.put,List.setIfInBounds_toArray,List.set_cons_zero,List.set_cons_succ];refine wpAnyH_take (i:=5) (v:=.pointer (some ⟨R,0,none⟩)) rfl (by kernel_rfl) (by kernel_rfl) (by kernel_rfl) (fun _ _ _ h=>h) (Or.inl ⟨by rfl,?_⟩) (by assumption) ?_
  ·intro V hV;go_simp
  simp only[List.getElem_toArray,List.getElem_cons_zero,List.getElem_cons_succ,Act.put,List.setIfInBounds_toArray,List.set_cons_zero,List.set_cons_succ];refine wpAnyH_ready (rs:=[6]) (by kernel_rfl) (by simp) ?_;refine AllReadyH.cons rfl (fun K hK=>?_) AllReadyH.nil;go_simp;refine HC.out.mono ?_;rintro e wt ⟨am,aZ⟩;obtain⟨b',rfl,t0,t1,tB,tl⟩:=am.err;go_wp2;exact⟨rfl,Or.inr ⟨_,HP.out,b',rfl,t0,t1,Nat.le_trans ay.out.size tB,tl⟩,ay.out.drew.then aZ⟩
 |ok z=>
  obtain⟨a,tn⟩:=z;have HC:=Hk (Qav R aq _ aG.out.drew);rw[hcp] at HC;have a6:=Hk hcp;clear hcp;have EN:=Hk (bind_ok aL.out a6.out);go_region_law (first|(go_simp;go_at_call 112;refine HC.out.mono ?_;rintro e aj ⟨am,ap⟩;obtain⟨ve,rfl,aK,ar⟩:=am.ok;unfold encS at aK;subst aK;have I:=(O.out.block (w':=w3.drew) rfl).but ap (by omega);have c4:=I.cell 3 rfl;have l4:=I.lt;have a8:=Hk ar;have aM:=Hk (ay.out.drew.then ap);have bH:=aM.out.size;have ah:=Hk ((Qal (bh.out.drew) ap (by omega)).alloc (.cells #[.string (ba a)] 9));have bk:=Hk I;clear am ap ar I)|(refine step_append_lies _ (by rfl) _ _ _ (by rfl) (w.heap.size) 9 i0 _ 1 16 Tryz.underlying44 hi a5 bf a9 rfl (by omega) (.slice (some ⟨F.heap.size,0,none⟩) 1 1) (1) _ (by rfl) ah.out ⟨aj.heap.size,0,none⟩ 1 1 [.string (ba a)] (by rfl) (by rfl) (Qb9 aj [.string (ba a)] 9 _ rfl) (by simp[Value.oneCell']) (by omega) (by unfold maxLen;omega) (by omega) (by simp;omega) (aj.heap.size+1) (by simp) ?_;intro gg bJ bF ak M aX bv;have X5:=Hk ((bk.out.below (Qaa aj (.cells #[.string (ba a)] 9))).grown M (by intro e;have:=ah.out.lt _ e;omega));have c5:=X5.out.cell 3 rfl;have f5:=X5.out.fz 3;have l5:=X5.out.lt;have aE:=Hk M;have a0:=Hk ak;clear aX;clear M ak))
  all_goals
   (go_wp2
    go_end0
    exact⟨Or.inl ⟨_,_,_,.slice none 0 0,EN.out,rfl,(((a8.out.below (Qaa _ _)).grown aE.out (fun q hq=>by have:=ah.out.lt q hq;omega)).set (by omega)),(X5.out.set _ _),(ownsRow_setCell_below (a0.out) (a:=⟨K,3,none⟩) (by show K<_;omega) _),World.ownsRow_nil _ _ _ _⟩,(((aM.out.box _).grown aE.out (fun q hq=>by have:=ah.out.lt q hq;omega)).put (by omega) _)⟩)
theorem Qoh (at_:Nat) (outs:List By) (retry:Int) (vo:Value) (K R:Nat) (ts:List Tk) (w:World) (h:RD w R ts) (hK:Box w K [.int .i64 (at_:Nat),.int .i64 0,vo,.slice none 0 0,.slice none 0 0,.string ⟨#[]⟩,.string ⟨#[]⟩,.int .i64 0,.int .i64 0,.string ⟨#[]⟩,.string ⟨#[]⟩,.int .i64 0,.int .i64 0,.string ⟨#[]⟩,.int .i64 retry]) (cB:R<K) (bt:∀c t,Qch ts=.ok (c,t)->c=8):
 Calls Tryz.prog 117 #[.pointer (some ⟨R,0,none⟩),.pointer (some ⟨K,0,none⟩)] w fun e w'=>Qgf (Qb8 at_ outs retry ts) vo K e w.heap.size w' R/\But2 R K w w':=by
 obtain⟨i0,hi,bN,b1,bU⟩:=info_parts Tryz.infoStr;have hR:=h.lt;have cz:=hK.lt;have H0:=Hk h;have B0:=Hk (But2.refl R K w);have X0:=Hk hK;have E0:=Hk (Qb8.eq_1 at_ outs retry ts);clear h hK;go_enter Tryz.func117,Tryz.ntmps117;go_wp2_with (go_at_call 154;fail);refine(QbI R ts _ H0.out).mono ?_;rintro e w1 ⟨⟨a1,b2,v,y,rfl,M,F⟩|⟨er,y,H⟩,ao⟩
 rotate_left
 ·obtain⟨b',rfl,U,t1,tB,tl⟩:=H;have HP:=Hk (Qaf E0.out y);clear y;go_wp2;exact⟨rfl,Or.inr ⟨_,HP.out,b',rfl,U,t1,Nat.le_trans B0.out.size tB,tl⟩,B0.out.then ao⟩
 unfold encI at M;subst M;have b4:=bt _ _ y;subst b4;have he:=bind_ok E0.out y
 dsimp only at he
 have E1:=Hk he;clear he y;have H2:=Hk F;have B3:=Hk (B0.out.then ao);have X4:=Hk (X0.out.but ao (by omega));have q5:=X4.out.lt;have bR:=ao.size
 try simp only[World.size_alloc,Qac] at bR
 clear H0 B0 X0 E0 F ao;clear bt;have ct:=X4.out.cell 1 rfl;have cu:=X4.out.fz 1;have cw:=X4.out.lt;have bu:=Hk (H2.out.set (k:=K) (i:=1) (v:=.int .i64 8) (by omega));have az:=Hk (B3.out.put (k:=K) (i:=1) (by omega) (.int .i64 8));have bh:Hid (Box (w1.setCell ⟨K,1,none⟩ (.int .i64 8)) K [.int .i64 (at_:Nat),.int .i64 8,vo,.slice none 0 0,.slice none 0 0,.string ⟨#[]⟩,.string ⟨#[]⟩,.int .i64 0,.int .i64 0,.string ⟨#[]⟩,.string ⟨#[]⟩,.int .i64 0,.int .i64 0,.string ⟨#[]⟩,.int .i64 retry]):=Hk (X4.out.set 1 (.int .i64 8));clear H2 B3 X4;go_wp2_with (go_at_call 112;fail);refine(Qav R b2 _ bu.out).mono ?_;rintro e N ⟨⟨a2,b3,v,y,rfl,M,F⟩|⟨er,y,H⟩,aj⟩
 rotate_left
 ·obtain⟨b',rfl,U,t1,tB,tl⟩:=H;have HP:=Hk (Qaf E1.out y);clear y;go_wp2;exact⟨rfl,Or.inr ⟨_,HP.out,b',rfl,U,t1,Nat.le_trans az.out.size tB,tl⟩,az.out.then aj⟩
 unfold encS at M;subst M;have he:=bind_ok E1.out y
 dsimp only at he
 have bi:=Hk he;clear he y;have aY:=Hk F;have bv:=Hk (az.out.then aj);have Z:=Hk (bh.out.but aj (by omega));have cx:=Z.out.lt;have bI:=aj.size
 try simp only[World.size_alloc,Qac] at bI
 clear bu az bh E1 F aj;have co:=Z.out.cell 1 rfl;have b9:=Z.out.cell 3 rfl;have cc:=Z.out.fz 3;have cf:=Z.out.lt;have a7:=Hk (aY.out.set (k:=K) (i:=3) (v:=.slice (some ⟨N.heap.size,0,none⟩) 1 1) (by omega));have ax:=Hk (bv.out.put (k:=K) (i:=3) (by omega) (.slice (some ⟨N.heap.size,0,none⟩) 1 1));have aX:Hid (Box (N.setCell ⟨K,3,none⟩ (.slice (some ⟨N.heap.size,0,none⟩) 1 1)) K [.int .i64 (at_:Nat),.int .i64 8,vo,.slice (some ⟨N.heap.size,0,none⟩) 1 1,.slice none 0 0,.string ⟨#[]⟩,.string ⟨#[]⟩,.int .i64 0,.int .i64 0,.string ⟨#[]⟩,.string ⟨#[]⟩,.int .i64 0,.int .i64 0,.string ⟨#[]⟩,.int .i64 retry]):=Hk (Z.out.set 3 (.slice (some ⟨N.heap.size,0,none⟩) 1 1));clear aY bv Z;have bw:=Hk (a7.out.below (Qaa _ (.cells #[.string (ba a2)] 9)));have aq:=Hk (ax.out.box (.cells #[.string (ba a2)] 9));have aT:=Hk (aX.out.below (Qaa _ (.cells #[.string (ba a2)] 9)));have bz:=Hk (own_new1 (N.setCell ⟨K,3,none⟩ (.slice (some ⟨N.heap.size,0,none⟩) 1 1)) w.heap.size 9 (Qck [a2]) 1 N.heap.size rfl (ax.out.size) (Qac _ _ _).symm);have aJ:=ax.out.size;simp only[Qac] at aJ;clear a7 ax aX;have he:=bi.out;rw[if_neg (by decide),if_neg (by decide),if_neg (by decide),if_neg (by decide),if_neg (by decide),if_pos (by decide)] at he;have aI:=Hk he;clear he bi;go_wp2_with (go_at_call 111;fail);refine(QaK wBy R b3 _ bw.out (by decide)).mono ?_;rintro e w3 ⟨⟨a3,bO,v,y,rfl,M,F⟩|⟨er,y,H⟩,ai⟩
 rotate_left
 ·obtain⟨b',rfl,U,t1,tB,tl⟩:=H;have HP:=Hk (Qaf aI.out y);clear y;go_wp2;exact⟨rfl,Or.inr ⟨_,HP.out,b',rfl,U,t1,Nat.le_trans aq.out.size tB,tl⟩,aq.out.then ai⟩
 subst M;have he:=bind_ok aI.out y
 dsimp only at he
 have aE:=Hk he;clear he y;have aU:=Hk F;have aA:=Hk (aq.out.then ai);have aK:=Hk (aT.out.but ai (by omega));have cr:=aK.out.lt;have bA:=Hk (Qal bz.out ai (by omega));have bD:=ai.size
 try simp only[World.size_alloc,Qac] at bD
 clear bw aq aT bz aI F ai;go_wp2_with (go_at_call 112;fail);refine(Qav R bO _ aU.out).mono ?_;rintro e D ⟨⟨a4,bZ,v,y,rfl,M,F⟩|⟨er,y,H⟩,I⟩
 rotate_left
 ·obtain⟨b',rfl,U,t1,tB,tl⟩:=H;have HP:=Hk (Qaf aE.out y);clear y;go_wp2;exact⟨rfl,Or.inr ⟨_,HP.out,b',rfl,U,t1,Nat.le_trans aA.out.size tB,tl⟩,aA.out.then I⟩
 unfold encS at M;subst M;have he:=bind_ok aE.out y
 dsimp only at he
 have aL:=Hk he;clear he y;have bB:=Hk F;have a8:=Hk (aA.out.then I);have O:=Hk (aK.out.but I (by omega));have cv:=O.out.lt;have bf:=Hk (Qal bA.out I (by omega));have bE:=I.size
 try simp only[World.size_alloc,Qac] at bE
 clear aU aA aK bA aE F I;have cp:=O.out.cell 1 rfl;have cq:=O.out.cell 4 rfl;have ce:=O.out.fz 4;have cd:=O.out.lt;have bo:=Hk (bB.out.set (k:=K) (i:=4) (v:=.slice (some ⟨D.heap.size,0,none⟩) 1 1) (by omega));have au:=Hk (a8.out.put (k:=K) (i:=4) (by omega) (.slice (some ⟨D.heap.size,0,none⟩) 1 1));have bk:Hid (Box (D.setCell ⟨K,4,none⟩ (.slice (some ⟨D.heap.size,0,none⟩) 1 1)) K [.int .i64 (at_:Nat),.int .i64 8,vo,.slice (some ⟨N.heap.size,0,none⟩) 1 1,.slice (some ⟨D.heap.size,0,none⟩) 1 1,.string ⟨#[]⟩,.string ⟨#[]⟩,.int .i64 0,.int .i64 0,.string ⟨#[]⟩,.string ⟨#[]⟩,.int .i64 0,.int .i64 0,.string ⟨#[]⟩,.int .i64 retry]):=Hk (O.out.set 4 (.slice (some ⟨D.heap.size,0,none⟩) 1 1));have bp:=Hk (ownsRow_setCell_below bf.out (a:=⟨K,4,none⟩) (by show K<_;omega) (.slice (some ⟨D.heap.size,0,none⟩) 1 1));clear bB a8 O bf;have bq:=Hk (bo.out.below (Qaa _ (.cells #[.string (ba a4)] 9)));have bg:=Hk (au.out.box (.cells #[.string (ba a4)] 9));have aV:=Hk (bk.out.below (Qaa _ (.cells #[.string (ba a4)] 9)));have br:=Hk (own_new1 (D.setCell ⟨K,4,none⟩ (.slice (some ⟨D.heap.size,0,none⟩) 1 1)) w.heap.size 9 (Qck [a4]) 1 D.heap.size rfl (au.out.size) (Qac _ _ _).symm);have bs:=Hk (bp.out.alloc (.cells #[.string (ba a4)] 9));have aN:=au.out.size;simp only[Qac] at aN;clear bo au bk bp;have bm:=Hk (bq.out.below (Qaa _ (.cells #[.string ⟨#[115,117,109]⟩,.string ⟨#[109,97,120]⟩] 9)));have av:=Hk (bg.out.box (.cells #[.string ⟨#[115,117,109]⟩,.string ⟨#[109,97,120]⟩] 9));have bj:=Hk (aV.out.below (Qaa _ (.cells #[.string ⟨#[115,117,109]⟩,.string ⟨#[109,97,120]⟩] 9)));have aZ:=Hk (bs.out.alloc (.cells #[.string ⟨#[115,117,109]⟩,.string ⟨#[109,97,120]⟩] 9));have bd:=Hk (br.out.alloc (.cells #[.string ⟨#[115,117,109]⟩,.string ⟨#[109,97,120]⟩] 9));clear bq bg aV bs br;have bH:Hid (Qdj (((D.setCell ⟨K,4,none⟩ (.slice (some ⟨D.heap.size,0,none⟩) 1 1)).alloc (.cells #[.string (ba a4)] 9)).alloc (.cells #[.string ⟨#[115,117,109]⟩,.string ⟨#[109,97,120]⟩] 9)) (.slice (some ⟨D.heap.size+1,0,none⟩) 2 2) [wSum,Qp9]):=Hk (Qd9 ((D.setCell ⟨K,4,none⟩ (.slice (some ⟨D.heap.size,0,none⟩) 1 1)).alloc (.cells #[.string (ba a4)] 9)) [wSum,Qp9] (by decide) (D.heap.size+1) (by simp only[World.size_alloc,Qac]));go_wp2_with (go_at_call 155;fail);refine(Qdq (.slice (some ⟨D.heap.size+1,0,none⟩) 2 2) [wSum,Qp9] R bZ (((D.setCell ⟨K,4,none⟩ (.slice (some ⟨D.heap.size,0,none⟩) 1 1)).alloc (.cells #[.string (ba a4)] 9)).alloc (.cells #[.string ⟨#[115,117,109]⟩,.string ⟨#[109,97,120]⟩] 9)) bm.out bH.out (by decide)).mono ?_;rintro e w5 ⟨⟨a5,aD,v,y,rfl,M,F⟩|⟨er,y,H⟩,af⟩
 rotate_left
 ·obtain⟨b',rfl,U,t1,tB,tl⟩:=H;have HP:=Hk (Qaf aL.out y);clear y;go_wp2;exact⟨rfl,Or.inr ⟨_,HP.out,b',rfl,U,t1,Nat.le_trans av.out.size tB,tl⟩,av.out.then af⟩
 unfold encS at M;subst M;have he:=bind_ok aL.out y
 dsimp only at he
 have a9:=Hk he;clear he y;have a0:=Hk F;have bx:=Hk (av.out.then af);have ah:=Hk (bj.out.but af (by omega));have cD:=ah.out.lt;have aW:=Hk (Qal aZ.out af (by omega));have a6:=Hk (Qal bd.out af (by omega));have bC:=af.size
 try simp only[World.size_alloc,Qac] at bC
 clear bm av bj aZ bd aL F af;have b7:=ah.out.cell 5 rfl;have cm:=ah.out.fz 5;have cb:=ah.out.lt;have bn:=Hk (a0.out.set (k:=K) (i:=5) (v:=.string (ba a5)) (by omega));have aC:=Hk (bx.out.put (k:=K) (i:=5) (by omega) (.string (ba a5)));have am:Hid (Box (w5.setCell ⟨K,5,none⟩ (.string (ba a5))) K [.int .i64 (at_:Nat),.int .i64 8,vo,.slice (some ⟨N.heap.size,0,none⟩) 1 1,.slice (some ⟨D.heap.size,0,none⟩) 1 1,.string (ba a5),.string ⟨#[]⟩,.int .i64 0,.int .i64 0,.string ⟨#[]⟩,.string ⟨#[]⟩,.int .i64 0,.int .i64 0,.string ⟨#[]⟩,.int .i64 retry]):=Hk (ah.out.set 5 (.string (ba a5)));have bK:=Hk (ownsRow_setCell_below aW.out (a:=⟨K,5,none⟩) (by show K<_;omega) (.string (ba a5)));have bT:=Hk (ownsRow_setCell_below a6.out (a:=⟨K,5,none⟩) (by show K<_;omega) (.string (ba a5)));clear a0 bx ah aW a6;have ci:=am.out.cell 4 rfl;have ca:=am.out.fz 4;have cj:=am.out.lt;go_wp2_with fail
 cases hcp:Qbd aD with
 |error er=>
  have HP:=Hk (Qaf a9.out hcp);have HC:=Hk (Qav R aD _ bn.out.drew);rw[hcp] at HC;refine wp_region_held_drew (S:=fun V=>V.cell? ⟨K,4,none⟩=some (.slice (some ⟨D.heap.size,0,none⟩) 1 1)) (by kernel_rfl) (am.out.cell 4 rfl) (fun hHeld=>?_);refine wpAnyH_take (i:=0) (v:=.pointer (some ⟨K,0,none⟩)) rfl (by kernel_rfl) (by kernel_rfl) (by kernel_rfl) (fun _ _ _ h=>h) (Or.inl ⟨by rfl,?_⟩) (by assumption) ?_
  ·intro V hV;go_simp
  simp only[List.getElem_toArray,List.getElem_cons_zero,List.getElem_cons_succ,Act.put,List.setIfInBounds_toArray,List.set_cons_zero,List.set_cons_succ];refine wpAnyH_take (i:=1) (v:=.pointer (some ⟨K,0,none⟩)) rfl (by kernel_rfl) (by kernel_rfl) (by kernel_rfl) (fun _ _ _ h=>h) (Or.inl ⟨by rfl,?_⟩) (by assumption) ?_
  ·intro V hV;go_simp
  simp only[List.getElem_toArray,List.getElem_cons_zero,List.getElem_cons_succ,Act.put,List.setIfInBounds_toArray,List.set_cons_zero,List.set_cons_succ];refine wpAnyH_take (i:=2) (v:=.pointer (some ⟨K,0,none⟩)) rfl (by kernel_rfl) (by kernel_rfl) (by kernel_rfl) (fun _ _ _ h=>h) (Or.inl ⟨by rfl,?_⟩) (by assumption) ?_
  ·intro V hV;go_simp
  simp only[List.getElem_toArray,List.getElem_cons_zero,List.getElem_cons_succ,Act.put,List.setIfInBounds_toArray,List.set_cons_zero,List.set_cons_succ];refine wpAnyH_take (i:=3) (v:=.pointer (some ⟨K,4,none⟩)) rfl (by kernel_rfl) (by kernel_rfl) (by kernel_rfl) (fun _ _ _ h=>h) (Or.inl ⟨by rfl,?_⟩) (by assumption) ?_
  ·intro V hV;go_simp
  simp only[List.getElem_toArray,List.getElem_cons_zero,List.getElem_cons_succ,Act.put,List.setIfInBounds_toArray,List.set_cons_zero,List.set_cons_succ];refine wpAnyH_take (i:=4) (v:=.slice (some ⟨D.heap.size,0,none⟩) 1 1) rfl (by kernel_rfl) (by kernel_rfl) (by kernel_rfl) (fun _ _ _ h=>h) (Or.inl ⟨by rfl,?_⟩) (by assumption) ?_
  ·intro V hV;go_simp
  simp only[List.getElem_toArray,List.getElem_cons_zero,List.getElem_cons_succ,Act.put,List.setIfInBounds_toArray,List.set_cons_zero,List.set_cons_succ];refine wpAnyH_take (i:=5) (v:=.pointer (some ⟨R,0,none⟩)) rfl (by kernel_rfl) (by kernel_rfl) (by kernel_rfl) (fun _ _ _ h=>h) (Or.inl ⟨by rfl,?_⟩) (by assumption) ?_
  ·intro V hV;go_simp
  simp only[List.getElem_toArray,List.getElem_cons_zero,List.getElem_cons_succ,Act.put,List.setIfInBounds_toArray,List.set_cons_zero,List.set_cons_succ];refine wpAnyH_ready (rs:=[6]) (by kernel_rfl) (by simp) ?_;refine AllReadyH.cons rfl (fun K hK=>?_) AllReadyH.nil;go_simp;refine HC.out.mono ?_;rintro e wt ⟨ay,bJ⟩;obtain⟨b',rfl,U,t1,tB,tl⟩:=ay.err;go_wp2;exact⟨rfl,Or.inr ⟨_,HP.out,b',rfl,U,t1,Nat.le_trans aC.out.size tB,tl⟩,aC.out.drew.then bJ⟩
 |ok z=>
  obtain⟨a,tn⟩:=z;have HC:=Hk (Qav R aD _ bn.out.drew);rw[hcp] at HC;have bQ:=Hk hcp;clear hcp;have EN:=Hk (bind_ok a9.out bQ.out);go_region_law (first|(go_simp;go_at_call 112;refine HC.out.mono ?_;rintro e ar ⟨ay,I⟩;obtain⟨ve,rfl,bb,aF⟩:=ay.ok;unfold encS at bb;subst bb;have X4:=(am.out.block (w':=(w5.setCell ⟨K,5,none⟩ (.string (ba a5))).drew) rfl).but I (by omega);have c4:=X4.cell 4 rfl;have l4:=X4.lt;have bS:=Hk aF;have be:=Hk (aC.out.drew.then I);have cA:=be.out.size;have ap:=Hk ((Qal (bT.out.drew) I (by omega)).alloc (.cells #[.string (ba a)] 9));have bP:=Hk X4;have bY:=Hk ((Qal (bK.out.drew) I (by omega)).alloc (.cells #[.string (ba a)] 9));clear ay I aF X4)|(refine step_append_lies _ (by rfl) _ _ _ (by rfl) (w.heap.size) 9 i0 _ 1 16 Tryz.underlying44 hi bN b1 bU rfl (by omega) (.slice (some ⟨D.heap.size,0,none⟩) 1 1) (1) _ (by rfl) ap.out ⟨ar.heap.size,0,none⟩ 1 1 [.string (ba a)] (by rfl) (by rfl) (Qb9 ar [.string (ba a)] 9 _ rfl) (by simp[Value.oneCell']) (by omega) (by unfold maxLen;omega) (by omega) (by simp;omega) (ar.heap.size+1) (by simp) ?_;intro gg cC cy aw J aG ch;have X5:=Hk ((bP.out.below (Qaa ar (.cells #[.string (ba a)] 9))).grown J (by intro e;have:=ap.out.lt _ e;omega));have c5:=X5.out.cell 4 rfl;have f5:=X5.out.fz 4;have l5:=X5.out.lt;have aS:=Hk J;have bL:=Hk aw;have cn:=Hk aG;have bW:=Hk (bY.out.kept J (Or.inr (by intro e;simp[Value.ownBlock] at e;omega)));clear aG;clear J aw))
  all_goals
   (go_wp2
    go_end0
    exact⟨Or.inl ⟨_,_,.slice (some ⟨N.heap.size,0,none⟩) 1 1,_,EN.out,rfl,(((bS.out.below (Qaa _ _)).grown aS.out (fun q hq=>by have:=ap.out.lt q hq;omega)).set (by omega)),(X5.out.set _ _),(ownsRow_setCell_below bW.out (a:=⟨K,4,none⟩) (by show K<_;omega) _),(ownsRow_setCell_below (bL.out) (a:=⟨K,4,none⟩) (by show K<_;omega) _)⟩,(((be.out.box _).grown aS.out (fun q hq=>by have:=ap.out.lt q hq;omega)).put (by omega) _)⟩)
end Go.Proofs.YtjlgejennghhlaaGreatDoor.Fw
