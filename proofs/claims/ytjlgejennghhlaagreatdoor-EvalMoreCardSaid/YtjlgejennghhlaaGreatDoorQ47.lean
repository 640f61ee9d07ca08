import Derived.Test.YtjlgejennghhlaaGreatDoorQ01
import Derived.Test.YtjlgejennghhlaaGreatDoorQ43
import Derived.Test.YtjlgejennghhlaaGreatDoorQ42
import Derived.Test.YtjlgejennghhlaaGreatDoorQ46
set_option linter.unusedSimpArgs false
set_option linter.unusedVariables false
set_option linter.unusedSectionVars false
set_option maxRecDepth 1000000
set_option maxHeartbeats 16000000
namespace Go.Proofs.YtjlgejennghhlaaGreatDoor.Pl.Ev
open Go.RowKit Go.Maps
open Fw (By FJob Flw ba)
structure Stay (w w':World):Prop where
 size:w.heap.size<=w'.heap.size
 cell:∀a v,w.cell? a=some v->w'.cell? a=some v
theorem Stay.refl (w:World):Stay w w:=⟨Nat.le_refl _,fun _ _ h=>h⟩
theorem Stay.trans {w w' y:World} (h:Stay w w') (D:Stay w' y):Stay w y:=⟨Nat.le_trans h.size D.size,fun a v e=>D.cell a v (h.cell a v e)⟩
theorem Stay.of {w w':World} (h:Below w.heap.size w w'):Stay w w':=⟨h.size,fun a v e=>(h.cell (World.block_lt_of_cell? w a e)).trans e⟩
theorem Stay.put {w w':World} {b:Nat} (H:∃es c,w.heap[b]? =some (.map es c)) (D:w.grownBy w' (some b)):Stay w w':=by
 refine⟨D.size,fun a v e=>?_⟩;have h:a.block≠b:=by
  intro q;obtain⟨es,cl,F⟩:=H;simp[World.cell?,q,F] at e
 have y:=D.block a.block (World.block_lt_of_cell? w a e) (by intro q;injection q with q;exact h q);exact(World.cell?_of_block y).trans e
def QgI (w:World) (u:Value) (t:Tb):Prop:=∃vc vr,u=.agg #[vc,vr]/\Qax w vc t.1/\Qcg w vr t.2
theorem Qi2 {w w':World} {b o:Nat} {D:List Vl} (h:QaR w b o D) (y:Stay w w'):QaR w' b o D:=
 fun j hj=>⟨y.cell _ _ (h j hj).1,y.cell _ _ (h j hj).2.1,y.cell _ _ (h j hj).2.2⟩
theorem Qi3 {w w':World} {v:Value} {cs:List Cl} (h:Qax w v cs) (D:Stay w w'):Qax w' v cs:=by
 obtain⟨a,c,e,H,J,h⟩:=h;refine⟨a,c,e,H,J,?_⟩;rcases h with h|⟨b,o,I,F,y⟩
 ·exact Or.inl h
 ·exact Or.inr ⟨b,o,I,Nat.lt_of_lt_of_le F D.size,fun j hj=>⟨D.cell _ _ (y j hj).1,D.cell _ _ (y j hj).2⟩⟩
theorem Qm4 {w w':World} {v:Value} {y:List Vl} (h:Qnw w v y) (D:Stay w w'):Qnw w' v y:=by
 obtain⟨a,c,e,I,K,h⟩:=h;refine⟨a,c,e,I,K,?_⟩;rcases h with h|⟨b,o,J,H,F⟩
 ·exact Or.inl h
 ·exact Or.inr ⟨b,o,J,Nat.lt_of_lt_of_le H D.size,Qi2 F D⟩
theorem Qk0 {w w':World} {v:Value} {rs:List (List Vl)} (h:Qcg w v rs) (y:Stay w w'):Qcg w' v rs:=by
 obtain⟨a,c,e,h⟩:=h;refine⟨a,c,e,?_⟩;rcases h with h|⟨b,o,J,F,D⟩
 ·exact Or.inl h
 ·refine Or.inr ⟨b,o,J,Nat.lt_of_lt_of_le F y.size,fun j hj=>?_⟩;obtain⟨u,I,H⟩:=D j hj;exact⟨u,y.cell _ _ I,Qm4 H y⟩
theorem QgI.stay {w w':World} {u:Value} {t:Tb} (h:QgI w u t) (y:Stay w w'):QgI w' u t:=by
 obtain⟨D,I,e,H,F⟩:=h;exact⟨D,I,e,Qi3 H y,Qk0 F y⟩
theorem QgI.below {w w':World} {u:Value} {t:Tb} (h:QgI w u t) (y:Below w.heap.size w w'):QgI w' u t:=h.stay (Stay.of y)
theorem rowsC_of {w:World} {B:Nat} {v:Value} {us:List Value} {rs:List (List Vl)} (h:w.ownsRow B 84 1 v rs.length us) (M:Qab w B us rs):Qcg w v rs:=by
 have H:=h;obtain⟨ab,⟨rfl,F⟩|⟨g,K,ac,rfl,hg,hb,F,hm,-,-⟩⟩:=h
 ·exact⟨none,0,by rw[F],Or.inl (List.length_eq_zero_iff.1 F)⟩
 ·refine⟨some ⟨g,0,none⟩,K,rfl,Or.inr ⟨g,0,rfl,(H.lt g rfl).2,fun j hj=>?_⟩⟩;have y:j<us.length:=by rw[M.1];exact hj
  refine⟨us[j],by rw[Nat.zero_add,H.cellAt j (by omega),List.getElem?_eq_getElem y],?_⟩;obtain⟨J,O⟩:=M.2 j y hj;have Z:=QbB J O;obtain⟨a,c,e,hs,I⟩:=Z;refine⟨a,c,e,?_,hs,I⟩;rcases J with ⟨-,⟨D,N⟩|⟨g2,U,V,D,-,-,N,-⟩⟩
  ·omega
  ·rw[e] at D;simp only[Value.slice.injEq] at D;omega
def QaT (w:World):AM->TM->Prop
 |[],[]=>True
 |a::A,c::m=>(a.1=c.1/\QgI w a.2 c.2)/\QaT w A m
 |_,_=>False
theorem QaT.stay {w w':World} {A:AM} {m:TM} (h:QaT w A m) (y:Stay w w'):QaT w' A m:=by
 induction A generalizing m with
 |nil=>cases m with
  |nil=>trivial
  |cons c m=>exact h.elim
 |cons a A ih=>cases m with
  |nil=>exact h.elim
  |cons c m=>exact⟨⟨h.1.1,h.1.2.stay y⟩,ih h.2⟩
theorem QaT.keys {w:World} {A:AM} {m:TM} (h:QaT w A m):keysA A=keysT m:=by
 induction A generalizing m with
 |nil=>cases m with
  |nil=>rfl
  |cons c m=>exact h.elim
 |cons a A ih=>cases m with
  |nil=>exact h.elim
  |cons c m=>simp only[keysA,keysT,List.map_cons];rw[h.1.1];congr 1;exact ih h.2
theorem QaT.snoc {w:World} {A:AM} {m:TM} {n:By} {u:Value} {t:Tb} (h:QaT w A m) (y:QgI w u t):QaT w (A++[(n,u)]) (m++[(n,t)]):=by
 induction A generalizing m with
 |nil=>cases m with
  |nil=>exact⟨⟨rfl,y⟩,trivial⟩
  |cons c m=>exact h.elim
 |cons a A ih=>cases m with
  |nil=>exact h.elim
  |cons c m=>exact⟨h.1,ih h.2⟩
theorem QaT.look {w:World} {A:AM} {m:TM} (h:QaT w A m) {n:By} (y:n∈keysT m):∃u t,Qbt A n=some u/\Qbh m n=some t/\QgI w u t/\(n,t)∈m:=by
 induction A generalizing m with
 |nil=>cases m with
  |nil=>cases y
  |cons c m=>exact h.elim
 |cons a A ih=>cases m with
  |nil=>exact h.elim
  |cons c m=>
   unfold Qbt Qbh
   by_cases e:c.1=n
   ·refine⟨a.2,c.2,by simp[h.1.1,e],by simp[e],h.1.2,by rw[<-e];simp⟩
   ·obtain⟨u,t,H,D,I,F⟩:=ih h.2 ((List.mem_cons.1 y).resolve_left (fun q=>e q.symm));refine⟨u,t,?_,?_,I,by simp[F]⟩
    ·rw[List.find?_cons_of_neg (by simp[h.1.1,e])];exact H
    ·rw[List.find?_cons_of_neg (by simp[e])];exact D
theorem QaT.len {w:World} {A:AM} {m:TM} (h:QaT w A m):A.length=m.length:=by
 have:=congrArg List.length h.keys;simpa [keysA,keysT] using this
theorem Qfb {w:World} {b:Nat} {A:AM} {n:By} (h:MapC w b A) (J:n∉keysA A) (K:A.length<1000000) (hs:n.length<=1000) (v:Value):
 ∃w',(Instr.mapUpdate 22 (.map (some b)) (.string (ba n)) v).run Tryz.prog w=.ok () w'/\MapC w' b (A++[(n,v)])/\w.grownBy w' (some b)/\w'.heap.size=w.heap.size:=by
 obtain⟨D,I,H,Z⟩:=h.is;have y:keyOf Tryz.prog 9 (.string (ba n))=some (.string n):=Dk.str_key Tryz.underlying9 (ba n) (Nat.le_trans hs (by decide));obtain⟨U,F,-,O,N⟩:=(show Dk.MapIs w 9 b A.length (Qlk A) from⟨D,I,H⟩).put QbN Tryz.underlying22 (Nat.lt_of_lt_of_le K (by decide)) y v
 obtain⟨w',V,q2,q3⟩:=I.update (val:=v) QbN Tryz.underlying22 (Nat.lt_of_lt_of_le K (by decide)) y (show Dk.Rv v=some (.held v,[]) from rfl);have e:=(Result.ok.inj (F.symm.trans V)).2;subst e;refine⟨U,F,⟨⟨D.put (.string n) (.held v),?_,?_,?_⟩,?_⟩,O,N⟩
 ·rw[List.length_append];exact q2
 ·rw[<-Qie J];exact H.put (QbN.key y) v
 ·obtain⟨es,rfl,M,-⟩:=I.entries QbN;rw[size_put ⟨es,rfl,M⟩,List.length_append,List.length_singleton];have:has (DataW.map es) (.string n)=false:=by
   rw[(H.2 (.string n)).1]
   show(Qbt A n).isSome=false
   rw[QcK J];rfl
  rw[this,Z];rfl
 ·rw[keysA,List.map_append];exact Qdt h.nd J
abbrev zeroT:Value:=.agg #[.slice none 0 0,.slice none 0 0]
theorem Qeg {w:World} {b:Nat} {A:AM} (h:MapC w b A) (n:By) (D:n.length<=1000) (c:Bool):
 (Instr.lookup 22 (.map (some b)) (.string (ba n)) c).run Tryz.prog w=.ok (if c then .tuple #[(Qbt A n).getD zeroT,.bool (Qbt A n).isSome] else(Qbt A n).getD zeroT) w:=by
 have y:keyOf Tryz.prog 9 (.string (ba n))=some (.string n):=Dk.str_key Tryz.underlying9 (ba n) (Nat.le_trans D (by decide));exact h.mapIs.look QbN Tryz.underlying22 (z:=zeroT) (by kernel_rfl) y c
theorem Qfc {w:World} {b:Nat} {A:AM} (h:MapC w b A) (y:TypeId):(Builtin.len_ #[22] y #[.map (some b)]).run Tryz.prog w=.ok (.int .i64 (A.length:Nat)) w:=by
 obtain⟨D,F,I,H⟩:=h.is;rw[<-H];exact F.len Tryz.underlying22 y
structure TabS (w1 wr:World) (b:Nat) (A:AM) (m:TM):Prop where
 low:Below w1.heap.size w1 wr
 map:MapC wr b A
 mem:QaT wr A m
theorem TabS.below {D wr w':World} {b:Nat} {A:AM} {m:TM} (h:TabS D wr b A m) (y:Below wr.heap.size wr w'):TabS D w' b A m:=
 ⟨bel_then h.low y,h.map.below y,h.mem.stay (Stay.of y)⟩
theorem TabS.put {y wr w':World} {b:Nat} {A:AM} {m:TM} {n:By} {u:Value} {t:Tb} (h:TabS y wr b A m) (I:y.heap.size<=b) (H:QgI wr u t) (F:MapC w' b (A++[(n,u)])) (D:wr.grownBy w' (some b)):TabS y w' b (A++[(n,u)]) (m++[(n,t)]):=
 ⟨h.low.grown D h.low.size (fun q hq=>by injection hq with hq;omega),F,(h.mem.stay (Stay.put h.map.obj D)).snoc (H.stay (Stay.put h.map.obj D))⟩
theorem TabS.len {y wr:World} {b:Nat} {A:AM} {m:TM} (h:TabS y wr b A m):A.length=m.length:=h.mem.len
structure GivM (w:World) (mv:Value) (G:By->Option (Value×Tb)):Prop where
 look:∀V,Below w.heap.size w V->∀n:By,n.length<=1000->∀c:Bool,(Instr.lookup 22 mv (.string (ba n)) c).run Tryz.prog V=.ok (if c then .tuple #[((G n).map (·.1)).getD zeroT,.bool (G n).isSome] else((G n).map (·.1)).getD zeroT) V
 tab:∀n u t,G n=some (u,t)->QgI w u t
theorem GivM.below {w w':World} {mv:Value} {G:By->Option (Value×Tb)} (h:GivM w mv G) (y:Below w.heap.size w w'):GivM w' mv G:=
 ⟨fun V hV n hn c=>h.look V (bel_then y hV) n hn c,fun n u t e=>(h.tab n u t e).below y⟩
def Qm5 (A:AM) (m:TM) (n:By):Option (Value×Tb):=match Qbt A n,Qbh m n with
 |some u,some t=>some (u,t)
 |_,_=>none
theorem GivM.of {w:World} {b:Nat} {A:AM} {m:TM} (h:MapC w b A) (H:QaT w A m):GivM w (.map (some b)) (Qm5 A m)/\∀n,(Qm5 A m n).map (·.2)=Qbh m n:=by
 have D:∀n,((Qm5 A m n).map (·.1))=Qbt A n/\(Qm5 A m n).isSome=(Qbt A n).isSome/\(Qm5 A m n).map (·.2)=Qbh m n:=by
  intro n
  by_cases hn:n∈keysT m
  ·obtain⟨u,t,y,F,-,-⟩:=H.look hn;simp[Qm5,y,F]
  ·have F:=QeC hn;have y:=QcK (A:=A) (n:=n) (by rw[H.keys];exact hn);simp[Qm5,y,F]
 refine⟨⟨fun V hV n hn c=>?_,fun n u t e=>?_⟩,fun n=>(D n).2.2⟩
 ·rw[(D n).1,(D n).2.1];exact Qeg (h.below hV) n hn c
 ·by_cases hn:n∈keysT m
  ·obtain⟨K,J,y,F,I,-⟩:=H.look hn;simp[Qm5,y,F] at e;obtain⟨rfl,rfl⟩:=e;exact I
  ·have y:=QcK (A:=A) (n:=n) (by rw[H.keys];exact hn);simp[Qm5,y] at e
end Go.Proofs.YtjlgejennghhlaaGreatDoor.Pl.Ev
namespace Go.Proofs.YtjlgejennghhlaaGreatDoor.Pl.Ev
open Go.RowKit Go.Maps
open Fw (By FJob Flw ba)
theorem Qk1 (vc vr:Value) (t:Tb) (w:World) (hc:Qax w vc t.1) (hr:QaG w vr t.2) (hR:Qae t.1 t.2=true):
 Calls Tryz.prog 62 #[.agg #[vc,vr]] w fun e w'=>∃vc' vr',e=.returned (.agg #[vc',vr'])/\Qbv w' w.heap.size vc' t.1/\Qbn w' w.heap.size vr' t.2/\Below w.heap.size w w':=by
 obtain⟨i0,hi,aU,a9,a4⟩:=info_parts Tryz.infoRow;obtain⟨cs,rs⟩:=t;obtain⟨h1,h6,aT,hl⟩:=Qam hR;simp only at hc hr h1 h6 aT hl;obtain⟨h,ab⟩:∃x,w.alloc (.cells #[vc,vr] 54)=x:=⟨_,rfl⟩;obtain⟨D,ah⟩:∃x,h.alloc (.cells #[.slice none 0 0,.slice none 0 0] 54)=x:=⟨_,rfl⟩;have y:Below w.heap.size w h:=by rw[<-ab];exact Qaa _ _
 have ak:h.heap.size=w.heap.size+1:=by rw[<-ab];simp
 have aw:D.heap.size=h.heap.size+1:=by rw[<-ah];simp
 have Z:Below h.heap.size h D:=by rw[<-ah];exact Qaa _ _
 have a0:h.cell? ⟨w.heap.size,0,none⟩=some vc:=by rw[<-ab];exact World.cell?_alloc_at _ _ _ _ rfl
 have a1:h.cell? ⟨w.heap.size,1,none⟩=some vr:=by rw[<-ab];exact World.cell?_alloc_at _ _ _ _ rfl
 have az:Fw.Box D h.heap.size [.slice none 0 0,.slice none 0 0]:=by rw[<-ah];exact Fw.Box.new h _ _ _ rfl
 have HA:Hid (∀V,Below D.heap.size D V->V.cell? ⟨w.heap.size,0,none⟩=some vc/\V.cell? ⟨w.heap.size,1,none⟩=some vr):=Hk fun V hV=>by
  have ax:=bel_then Z hV;exact⟨cK ax (by omega) a0,cK ax (by omega) a1⟩
 have ae:=bel_then y Z;have aB:=Hk ae;have a7:=Hk az;have HR:=Hk (hr.below ae);have HC:=Hk (hc.below ae);have HL:=Hk hl;have ad:=Hk (Ai h1 h6);have k1:=(HA.out D (Below.refl _ _)).2;have HS:=Hk (Ai ak aw);have aF:w.heap.size<D.heap.size:=by omega
 have bp:=Hk aF;obtain⟨va,bs,rfl,-⟩:=hr;obtain⟨ca,br,rfl,-⟩:=hc;clear hl az y Z ae a0 a1 aF ak aw;go_enter Tryz.func62,Tryz.ntmps62;go_wp2;go_loopw [3,9] (fun l i wr=>∃(k:Nat) (us:List Value),k<=rs.length/\i=.int .i64 k/\wr.ownsRow D.heap.size 84 1 l k us/\Qab wr D.heap.size us (rs.take k)/\Below D.heap.size D wr) (fun _ i _=>rs.length-(intOf i).toNat)
 case atStart=>exact⟨0,[],Nat.zero_le _,rfl,World.ownsRow_nil _ _ _ _,Qab.nil _ _,Below.refl _ _⟩
 case round=>
  obtain⟨k,us,hk,rfl,N,F,I⟩:=hrel;obtain⟨la,lc,rfl⟩:=own_slice N;have U:=Hk (Ai N F);have HX:=Hk I;have aZ:=I.size
  by_cases hlt:k<rs.length
  ·obtain⟨b,o,c,ay,a2,aG⟩:=QgN HR.out (by omega);simp only[Value.slice.injEq,true_and] at ay;obtain⟨rfl,rfl⟩:=ay;obtain⟨u,hu,af⟩:=aG k hlt;have cu:=cK I a2 hu;have aD:=af.below I;obtain⟨ua,uc,rfl⟩:=Go.Proofs.YtjlgejennghhlaaGreatDoor.row_slice af;have aA:=HL.out _ (List.getElem_mem hlt);have au:=Qdb _ _ wr aD (by have:=ad.out;omega) (by have:=ad.out;omega);have aa:∀x∈rs[k],x.2.2.size<=maxLen:=by obtain⟨_,_,_,hs,_⟩:=af;exact hs
   have HC:=Hk au;have HS:=Hk (Ai aa aA);clear au aG hu af aD I N F aa aA k1;generalize av:rs[k]=rk at*;have bb:=Hk av;clear av;go_wp2_with (first|(go_at_call 103;refine HC.out.mono ?_;rintro e w3 ⟨v1,rfl,M,y⟩;obtain⟨J,H,rfl⟩:=own_slice M)|(at_builtin;refine wpList_append_own _ rfl _ _ 52 rfl D.heap.size 84 i0 (.slice none 0 0) 1 24 Tryz.underlying52 hi aU a9 a4 rfl (by decide) _ _ _ rfl ((owns_below U.out.1 y).alloc _) ⟨w3.heap.size,0,none⟩ 1 1 [.slice J rk.length H] rfl rfl (news1 _ _ _ _ rfl) (Qc2 _ _ _) ?c3 ?c4 ?c5 ?_))
   case c3=>unfold maxLen;omega
   case c4=>omega
   case c5=>have:=y.size;simp;omega
   intro v' w5 ag K _;have ak:=y.size;have ai:Below D.heap.size D w5:=((bel_then HX.out y).alloc (by omega) _).grown K (by simp;omega) (fun q hq=>(U.out.1.lt q hq).1);have aj:=((owns_below U.out.1 y).alloc (.cells #[.slice J rk.length H] 84));have aE:=((U.out.2.below y).below (Qaa w3 (.cells #[.slice J rk.length H] 84))).grow aj K;have aH:=(M.alloc (.cells #[.slice J rk.length H] 84)).kept K (Qb2 (by decide) (M.alloc _) aj);have am:=aE.snoc (own_mono (by omega) aH) HS.out.1;rw[show rs.take k++[rk]=rs.take (k+1) by rw[List.take_succ_eq_append_getElem hlt,bb.out]] at am;have HF:=Hk (Ai ag (Ai am ai));clear ag K am ai aE aH aj;go_wp2;go_roundw
   case rel=>exact⟨k+1,_,by omega,by go_num,HF.out.1,HF.out.2.1,HF.out.2.2⟩
   case measure=>simp[intOf];omega
  ·have aW:k=rs.length:=by omega
   subst aW;rw[List.take_of_length_le (Nat.le_refl _)] at F;clear U;have U:=Hk (Ai N F);have q0:=(HA.out wr I).1;have bd:=Hk (QhA _ cs wr (HC.out.below I) ad.out.1 (by have:=ad.out;omega));clear N F I k1 aZ hlt;generalize aP:cs.length=cn at*;go_wp2_with (first|(go_at_call 58;refine bd.out.mono ?_;rintro e w3 ⟨v1,rfl,M,y⟩;obtain⟨J,H,rfl⟩:=own_slice M;have ac:=Hk (Ai M y);have O:=(a7.out.below HX.out).below y;have f0:=O.fz 0;have f1:=O.fz 1;have c0:=O.cell 0 (v:=.slice none 0 0) rfl;have c1:=O.cell 1 (v:=.slice none 0 0) rfl;have a3:=Hk O;clear M y O));have X4:=(a3.out.set 0 (.slice J cn H)).set 1 (.slice la rs.length lc);have z0:=X4.cell 0 (v:=.slice J cn H) rfl;have z1:=X4.cell 1 (v:=.slice la rs.length lc) rfl;refine bodyPost_ret (v:=.agg #[.slice J cn H,.slice la rs.length lc]) (by simp[results,Tryz.results62,go_sem,z0,z1]) rfl ?_;have hs:=HS.out;have aC:w.heap.size<=h.heap.size:=by omega
   have bq:=HX.out.size;have aS:Below w.heap.size w w3:=aB.out.trans ((bel_then HX.out ac.out.2).mono aB.out.size);refine⟨_,_,rfl,⟨?_,fun x hx=>?_⟩,⟨us,?_,?_⟩,(aS.setCell (p:=⟨h.heap.size,0,none⟩) aC _).setCell (p:=⟨h.heap.size,1,none⟩) aC _⟩
   ·have h5:=ac.out.1;rw[<-aP] at h5⊢;exact own_mono (by omega) (ownsRow_setCell_below (ownsRow_setCell_below h5 (a:=⟨h.heap.size,0,none⟩) (by show h.heap.size<wr.heap.size;omega) _) (a:=⟨h.heap.size,1,none⟩) (by show h.heap.size<wr.heap.size;omega) _)
   ·obtain⟨-,-,-,-,aa,-⟩:=HC.out;exact aa x hx
   ·exact own_mono (by omega) (ownsRow_setCell_below (ownsRow_setCell_below (owns_below U.out.1 ac.out.2) (a:=⟨h.heap.size,0,none⟩) (by show h.heap.size<D.heap.size;omega) _) (a:=⟨h.heap.size,1,none⟩) (by show h.heap.size<D.heap.size;omega) _)
   ·exact(((U.out.2.below ac.out.2).set (R:=h.heap.size) (by omega)).set (R:=h.heap.size) (by omega)).mono (by omega)
end Go.Proofs.YtjlgejennghhlaaGreatDoor.Pl.Ev
namespace Go.Proofs.YtjlgejennghhlaaGreatDoor.Pl.Ev
open Go.RowKit Go.Maps
open Fw (By FJob Flw ba)
noncomputable def doN (j:FJob) (ts:List Tb) (n:By):Tb:=((doC j ts)[j.outs.idxOf n]?).getD ([],[])
def Qha (u:Value):List Value:=match u with |.agg a=>a.toList|v=>[v]
def Qll (A:AM) (l:List By):List Value:=l.flatMap fun n=>Qha ((Qbt A n).getD zeroT)
theorem Qm6 {A:AM} {l:List By} {k:Nat} {y h:Value} (F:k<l.length) (D:Qbt A l[k]=some (.agg #[y,h])):Qll A (l.take k)++[y,h]=Qll A (l.take (k+1)):=by
 rw[List.take_succ_eq_append_getElem F,Qll,Qll,List.flatMap_append];simp[D,Qha]
theorem Qm7 {w:World} {A:AM} {m:TM} (F:QaT w A m):∀(l:List By),(∀n∈l,n∈keysT m)->(Qll A l).length=l.length*2/\∀i (h:i<l.length),∃y D,(Qll A l)[i*2]? =some y/\(Qll A l)[i*2+1]? =some D/\QgI w (.agg #[y,D]) ((Qbh m l[i]).getD ([],[]))
 |[],_=>⟨rfl,fun i h=>absurd h (by simp)⟩
 |n::r,hl=>by
  obtain⟨V,N⟩:=Qm7 F r (fun x hx=>hl x (by simp[hx]));obtain⟨u,t,M,J,⟨y,D,rfl,U,q2⟩,-⟩:=F.look (hl n (by simp));have e:Qll A (n::r)=y::D::Qll A r:=by simp[Qll,M,Qha]
  rw[e];refine⟨by simp[V];omega,fun i hi=>?_⟩
  cases i with
  |zero=>exact⟨y,D,rfl,rfl,y,D,rfl,by rw[List.getElem_cons_zero,J];exact U,by rw[List.getElem_cons_zero,J];exact q2⟩
  |succ i=>
   obtain⟨H,I,O,K,Z⟩:=N i (by simpa using hi);refine⟨H,I,?_,?_,by simpa using Z⟩
   ·rw[show(i+1)*2=i*2+1+1 by omega];simpa using O
   ·rw[show(i+1)*2+1=i*2+1+1+1 by omega];simpa using K
def Qf2 (w:World) (g:Nat) (ts:List Tb):Prop:=g<w.heap.size/\∀k (h:k<ts.length),∃vc vr,w.cell? ⟨g,k*2,none⟩=some vc/\w.cell? ⟨g,k*2+1,none⟩=some vr/\QgI w (.agg #[vc,vr]) ts[k]
theorem Qf2.stay {w w':World} {g:Nat} {ts:List Tb} (h:Qf2 w g ts) (y:Stay w w'):Qf2 w' g ts:=⟨Nat.lt_of_lt_of_le h.1 y.size,fun k hk=>by
 obtain⟨D,I,H,F,J⟩:=h.2 k hk;exact⟨D,I,y.cell _ _ H,y.cell _ _ F,J.stay y⟩⟩
theorem Qf2.at {w:World} {g:Nat} {ts:List Tb} (h:Qf2 w g ts):QaX w g 0 ts:=fun k hk=>by
 obtain⟨y,I,H,D,K,M,e,J,F⟩:=h.2 k hk;simp only[Value.agg.injEq,Array.mk.injEq,List.cons.injEq,and_true] at e;obtain⟨rfl,rfl⟩:=e;exact⟨y,I,by rw[Nat.zero_add];exact H,by rw[Nat.zero_add];exact D,J,F.is⟩
theorem Qf2.snd {w:World} {g:Nat} {ts:List Tb} (h:Qf2 w g ts):∀y,w.cell? ⟨g,3,none⟩=some y->∀t∈ts[1]?,Qcg w y t.2:=by
 intro y F t J;obtain⟨I,rfl⟩:=List.getElem?_eq_some_iff.1 J;obtain⟨N,D,-,k2,M,K,e,-,H⟩:=h.2 1 I;simp only[Value.agg.injEq,Array.mk.injEq,List.cons.injEq,and_true] at e;obtain⟨rfl,rfl⟩:=e;have:y=D:=Option.some.inj (F.symm.trans k2);rw[this];exact H
theorem Qf2.new {w:World} {B g:Nat} {ts:List Tb} (M:g<w.heap.size) (h:QbP w B g ts):Qf2 w g ts:=⟨M,fun k hk=>by
 obtain⟨y,H,F,D,K,us,I,J⟩:=h k hk;rw[Nat.zero_add] at F D;exact⟨y,H,F,D,y,H,rfl,K.is,rowsC_of I J⟩⟩
theorem QpZ {w:World} {B D:Nat} {I:Value} {A:AM} {m:TM} {l:List By} (h:w.ownsRow B 54 2 I D (Qll A l)) (hl:l.length=D) (V:0<D) (O:QaT w A m) (y:∀n∈l,n∈keysT m):∃g gc,I=.slice (some ⟨g,0,none⟩) D gc/\Qf2 w g (l.map fun n=>(Qbh m n).getD ([],[])):=by
 have F:=h;obtain⟨-,⟨-,hn⟩|⟨g,J,aa,rfl,-,-,-,-,-,-⟩⟩:=h
 ·omega
 ·obtain⟨k1,k2⟩:=Qm7 O l y;refine⟨g,J,rfl,(F.lt g rfl).2,fun i hi=>?_⟩;have H:i<l.length:=by simpa using hi
  obtain⟨K,U,M,Z,N⟩:=k2 i H;exact⟨K,U,(F.cellAt (i*2) (by omega)).trans M,(F.cellAt (i*2+1) (by omega)).trans Z,by rw[List.getElem_map];exact N⟩
def DoT (w1:World) (b:Nat) (m:TM) (j:FJob) (e:Ending) (w':World):Prop:=
 (doE j (inT m j)≠0/\e=.returned (QbK (doE j (inT m j)))/\Below w1.heap.size w1 w')\/
 (doE j (inT m j)=0/\e=.returned .nilIface/\∃A',TabS w1 w' b A' (m++j.outs.map fun n=>(n,doN j (inT m j) n)))
theorem news2 (w:World) (u v:Value) (t:TypeId) (H:Nat) (y:w.heap.size=H):∀j x,[u,v][j]? =some x->(w.alloc (.cells #[u,v] t)).cell? ((⟨H,0,none⟩:Addr).add j)=some x:=by
 intro j x h
 match j,h with
 |0,h=>simp at h;subst h;subst y;simp[Addr.add]
 |1,h=>simp at h;subst h;subst y;simp[Addr.add]
theorem Qrp (a D:Option Addr) (n c y F:Nat):∀u∈[Value.slice a n c,.slice D y F],u.oneCell'=true:=by intro u h;simp at h;rcases h with rfl|rfl<;>rfl
theorem QqH (j:FJob) (vo vi vc:Value) (m:TM) (A:AM) (b:Nat) (w1 w:World) (hj:Fw.JobOK j) (aB:Fw.StrsR w vo j.outs) (aw:Fw.StrsR w vi j.ins) (aV:Fw.StrsR w vc j.cols) (hS:TabS w1 w b A m) (bq:w1.heap.size<=b)
 (ar:∀n∈j.ins,n∈keysT m) (am:∀x∈m,Qae x.2.1 x.2.2=true) (ay:Qbg j ((inT m j).map (·.1))=0) (ak:∀r (hr:r<j.outs.length),j.outs[r]∉keysT m++j.outs.take r) (aK:m.length+j.outs.length<=16016) (a8:Env w):
 Calls Tryz.prog 25 #[.agg (Fw.jobV j vo vi vc).toArray,.map (some b)] w fun e w'=>DoT w1 b m j e w':=by
 obtain⟨i0,hi,bN,b8,b0⟩:=info_parts Tryz.infoTab;obtain⟨V,Z⟩:∃V,Fw.jobV j vo vi vc=V:=⟨_,rfl⟩;have aM:=QcX aB aw aV;obtain⟨oa,bv,rfl⟩:=Pl.strs_slice aB;obtain⟨na,nc,rfl⟩:=Pl.strs_slice aw;have bf:V[2]? =some (.slice oa j.outs.length bv):=by rw[<-Z];rfl
 have bu:V[3]? =some (.slice na j.ins.length nc):=by rw[<-Z];rfl
 obtain⟨w3,bn⟩:∃x,w.alloc (.cells V.toArray 50)=x:=⟨_,rfl⟩;have ab:Below w.heap.size w w3:=by rw[<-bn];exact Qaa _ _
 have aO:Fw.Box w3 w.heap.size V:=by rw[<-bn];exact Fw.Box.new w V _ _ rfl
 have aY:(Tryz.prog.info? 50).map (·.size)=some V.length:=by rw[show V.length=15 by rw[<-Z];rfl];exact Fw.job_info
 have bV:=aO.cell 3 bu;have b1:=Hk Z;have bW:=Hk aO;have bZ:=Hk aY;have bR:=Hk (hS.below ab);have bi:=Hk (aB.below ab);have bG:=Hk (aw.below ab);have bH:=Hk (aV.below ab);have cb:=Hk (a8.below ab);have bO:=Hk bf;have U:=Hk hj;have aR:=Hk ar;have bX:=Hk am;have bp:=Hk ay;have be:=Hk ak;have b7:=Hk aK;have bQ:=Hk bq;have cy:=Hk aM;have cf:Hid (0<j.ins.length):=Hk (by have:=(QfZ hj).2;omega);obtain⟨ni,aC⟩:∃ni,j.ins.length=ni:=⟨_,rfl⟩;have al:=Hk aC;have cI:ni<=1000:=by rw[<-aC];exact hj.il
 rw[aC] at bV;rw[Z];clear Z bf bu aO aY ab hS aB aw aV a8 hj ar am ay ak aK bq aM aC;go_enter Tryz.func25,Tryz.ntmps25;go_wp2;go_loopw [5,15] (fun iv i wr=>∃r:Nat,r<=ni/\i=.int .i64 r/\wr.ownsRow w3.heap.size 54 2 iv r (Qll A (j.ins.take r))/\Below w3.heap.size w3 wr) (fun _ i _=>ni-(intOf i).toNat)
 case atStart=>exact⟨0,Nat.zero_le _,rfl,World.ownsRow_nil _ _ _ _,Below.refl _ _⟩
 case round=>
  obtain⟨r,hr,rfl,J,D⟩:=hrel;obtain⟨la,lc,rfl⟩:=own_slice J;have HX:=Hk (Ai J D);have cE:=D.size;have ac:=Hk (bR.out.below D)
  by_cases hlt3:r<ni
  ·have N:r<j.ins.length:=by have:=al.out;omega
   rcases bG.out with ⟨-,M⟩|⟨nb,no,cC,M,cj,bU,F⟩
   ·rw[M] at N;exact absurd N (by simp)
   simp only[Value.slice.injEq] at M;obtain⟨rfl,-,rfl⟩:=M;have d1:=(D.cell (p:=⟨nb,no+r,none⟩) bU).trans (F r N);obtain⟨u,t,aD,-,⟨bw,bo,rfl,aU,aI⟩,-⟩:=ac.out.mem.look (aR.out _ (List.getElem_mem N));have aJ:=Hk (Qm6 N aD);obtain⟨x,hx⟩:∃x,j.ins[r]=x:=⟨_,rfl⟩;have ax:x∈j.ins:=by rw[<-hx];exact List.getElem_mem N
   rw[hx] at d1 aD;have au:=Qeg ac.out.map x (U.out.is x ax) false;rw[aD] at au;obtain⟨ca,cc,rfl,-⟩:=aU;obtain⟨ra,rc,rfl,-⟩:=aI;obtain⟨bx,aj⟩:∃bx,ba x=bx:=⟨_,rfl⟩;rw[aj] at d1 au;simp only[Option.getD_some,Bool.false_eq_true,if_false] at au;generalize t.1.length=cn at*;generalize t.2.length=rn at*;clear J D F hx aj ax aD;go_wp2_with (first|(at_builtin;refine wpList_append_own _ rfl _ _ 128 rfl w3.heap.size 54 i0 (.agg #[.slice none 0 0,.slice none 0 0]) 2 48 Tryz.underlying128 hi bN b8 b0 rfl (by decide) _ _ _ rfl (HX.out.1.alloc _) ⟨wr.heap.size,0,none⟩ 1 1 [.slice ca cn cc,.slice ra rn rc] rfl rfl (news2 _ _ _ _ _ rfl) (Qrp _ _ _ _ _ _) ?c3 ?c4 ?c5 ?_))
   case c3=>unfold maxLen;omega
   case c4=>omega
   case c5=>simp;omega
   intro v' w5 ag az _;have aP:Below w3.heap.size w3 w5:=(HX.out.2.alloc (by omega) _).grown az (by simp;omega) (fun q hq=>(HX.out.1.lt q hq).1);rw[aJ.out] at ag;have HF:=Hk (Ai ag aP);clear ag az aP au;go_wp2;go_roundw
   case rel=>exact⟨r+1,by omega,by go_num,HF.out.1,HF.out.2⟩
   case measure=>simp[intOf];omega
  ·obtain rfl:r=ni:=by omega
   have aE:j.ins.take r=j.ins:=List.take_of_length_le (by have:=al.out;omega);rw[aE] at J;obtain⟨g,gc,M,aA⟩:=QpZ J al.out (by have:=al.out;have:=cf.out;omega) ac.out.mem aR.out;simp only[Value.slice.injEq,true_and] at M;obtain⟨rfl,rfl⟩:=M;have aN:∀t∈inT m j,Qae t.1 t.2=true:=by
    intro t ht;obtain⟨n,hn,rfl⟩:=List.mem_map.1 ht;obtain⟨u,t,-,h2,-,h4⟩:=ac.out.mem.look (aR.out n hn);rw[h2];exact bX.out _ h4
   have av:(inT m j).length=j.ins.length:=by simp[inT]
   have bj:=Hk (Qqz j (.slice oa j.outs.length bv) (.slice na j.ins.length nc) vc (inT m j) g lc wr U.out (bi.out.below D) (bH.out.below D) aA.at aA.1 aA.snd av aN bp.out (cb.out.below D));have b5:Hid (doE j (inT m j)=0->(doC j (inT m j)).length=j.outs.length):=Hk fun h0=>(QjX U.out av aN bp.out h0).1
   rw[b1.out,av,al.out] at bj;have aS:=bW.out.below D;have b4:=Hk aS.range;have b3:=Hk aS;clear J D aE aA aN av aS;go_wp2_with (first|(refine wpList_load_mid rfl 50 (.tmp 2) rfl w.heap.size 0 rfl V _ b4.out Tryz.underlying50 rfl bZ.out ?_)|(go_at_call 61;fail));refine bj.out.mono ?_;rintro e5 w5 ⟨ad,⟨hE,rfl⟩|⟨hE,g5,c5,rfl,ch,aX,a9⟩⟩
   ·have aa:=Hk hE;have b6:=Hk (bel_then ac.out.low ad);obtain⟨en,a1⟩:∃en,doE j (inT m j)=en:=⟨_,rfl⟩;have bg:=Hk a1;rw[a1] at aa⊢;have aL:QbK en=.iface 37 (.int .i64 en):=by unfold QbK;rw[if_neg aa.out]
    rw[aL];clear ad hE a1;go_wp2;refine bodyPost_ret (v:=.iface 37 (.int .i64 en)) (by simp[results,Tryz.results25,go_sem]) rfl ?_;exact Or.inl ⟨by rw[bg.out];exact aa.out,by rw[bg.out,aL],b6.out⟩
   ·have HE:=Hk hE;have aT:=b5.out hE;have a6:=Hk (Qf2.new aX a9);have bh:=Hk (ac.out.below ad);have bm:=b3.out.below ad;have bS:=bm.cell 2 bO.out;obtain⟨K,af⟩:∃K,doC j (inT m j)=K:=⟨_,rfl⟩;rw[af] at aT a6;have bI:Hid (∀r (hr:r<j.outs.length) (a7:r<K.length),doN j (inT m j) j.outs[r]=K[r]):=Hk fun r hr a7=>by
     have cd:∀q (hq:q<r),j.outs[q]'(by omega)≠j.outs[r]:=fun q hq e=>by
      have:=be.out r hr;apply this;rw[<-e,List.mem_append];exact Or.inr (List.mem_iff_getElem.2 ⟨q,by rw[List.length_take];omega,by rw[List.getElem_take]⟩)
     have bF:j.outs.idxOf j.outs[r]=r:=by
      have h1:=List.idxOf_lt_length_iff.2 (List.getElem_mem hr);have h2:=List.getElem_idxOf h1;rcases Nat.lt_trichotomy (j.outs.idxOf j.outs[r]) r with h|h|h
      ·exact absurd h2 (cd _ h)
      ·exact h
      ·have:=List.not_of_lt_findIdx (p:=(·==j.outs[r])) (xs:=j.outs) h;simp at this
     unfold doN;rw[bF,af,List.getElem?_eq_getElem a7,Option.getD_some]
    obtain⟨no,ah⟩:∃no,j.outs.length=no:=⟨_,rfl⟩;have aa:=Hk ah;have cB:no<=1000:=by rw[<-ah];exact U.out.ol
    rw[ah] at bS;have bk:=Hk (aT.trans ah);rw[af,bk.out];have bz:=Hk (Stay.of (bel_then HX.out.2 ad));clear ad hE af bm a9 aT aX ch ah;go_wp2;go_loopw [38] (fun i wy=>∃r:Nat,r<=no/\i=.int .i64 r/\∃A',TabS w1 wy b A' (m++(j.outs.take r).map fun n=>(n,doN j (inT m j) n))/\Stay w5 wy) (fun i _=>no-(intOf i).toNat)
    case atStart=>exact⟨0,Nat.zero_le _,rfl,A,by simpa using bh.out,Stay.refl _⟩
    case round=>
     clear bh;obtain⟨y,N,rfl,A',H,I⟩:=hrel;have cD:=Hk (Ai H I)
     by_cases hlt4:y<no
     ·have O:y<j.outs.length:=by have:=aa.out;omega
      have br:y<K.length:=by have:=bk.out;omega
      rcases bi.out with ⟨-,M⟩|⟨tb,cH,cG,M,ci,cz,F⟩
      ·rw[M] at O;exact absurd O (by simp)
      simp only[Value.slice.injEq] at M;obtain⟨rfl,-,rfl⟩:=M;have d1:=I.cell _ _ (bz.out.cell _ _ (F y O));obtain⟨x,hx⟩:∃x,j.outs[y]=x:=⟨_,rfl⟩;have ax:x∈j.outs:=by rw[<-hx];exact List.getElem_mem O
      rw[hx] at d1;have ap:=a6.out.stay I;obtain⟨bw,bo,t0,t1,bt⟩:=ap.2 y br;have co:=ap.1;have bs:x∉keysA A':=by
       rw[H.mem.keys,show keysT (m++(j.outs.take y).map fun n=>(n,doN j (inT m j) n))=keysT m++j.outs.take y by simp[keysT,Function.comp_def],<-hx];exact be.out y O
      have bd:A'.length<1000000:=by
       rw[H.len,List.length_append,List.length_map,List.length_take];have:=b7.out;omega
      obtain⟨w7,bK,bb,aW,b2⟩:=Qfb H.map bs bd (U.out.os x ax) (.agg #[bw,bo]);have aJ:Hid (m++(j.outs.take (y+1)).map (fun n=>(n,doN j (inT m j) n))=(m++(j.outs.take y).map fun n=>(n,doN j (inT m j) n))++[(x,K[y])]):=Hk (by
       rw[List.take_succ_eq_append_getElem O,List.map_append,<-bI.out y O br,hx,List.append_assoc];rfl)
      have HF:=Hk (Ai (H.put bQ.out bt bb aW) (I.trans (Stay.put H.map.obj aW)));obtain⟨cA,cF,e2,aU,aI⟩:=bt;simp only[Value.agg.injEq,Array.mk.injEq,List.cons.injEq,and_true] at e2;obtain⟨rfl,rfl⟩:=e2;obtain⟨ca,cc,rfl,-⟩:=aU;obtain⟨ra,rc,rfl,-⟩:=aI;obtain⟨bx,aj⟩:∃bx,ba x=bx:=⟨_,rfl⟩;rw[aj] at d1 bK;have cp:(y:Int)<(no:Int):=by omega
      generalize K[y].1.length=cn at*;generalize K[y].2.length=rn at*;clear H I F hx bs bd bb aW aj b2 ap;go_wp2;go_roundw
      case rel=>exact⟨y+1,by omega,by go_num,_,by rw[aJ.out];exact HF.out.1,HF.out.2⟩
      case measure=>simp[intOf];omega
     ·obtain rfl:y=no:=by omega
      have HF:Hid (TabS w1 wr b A' (m++j.outs.map fun n=>(n,doN j (inT m j) n))):=Hk (by
       have:=H;rwa[List.take_of_length_le (by have:=aa.out;omega)] at this)
      clear H I;go_wp2;refine bodyPost_ret (v:=.nilIface) (by simp[results,Tryz.results25,go_sem]) rfl ?_;exact Or.inr ⟨HE.out,rfl,A',HF.out⟩
end Go.Proofs.YtjlgejennghhlaaGreatDoor.Pl.Ev
