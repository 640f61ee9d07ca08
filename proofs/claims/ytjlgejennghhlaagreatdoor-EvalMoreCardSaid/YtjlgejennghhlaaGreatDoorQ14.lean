import Derived.Test.YtjlgejennghhlaaGreatDoorQ01
import Derived.Test.YtjlgejennghhlaaGreatDoorQ10
set_option linter.unusedSimpArgs false
set_option linter.unusedVariables false
set_option linter.unusedSectionVars false
set_option maxRecDepth 1000000
set_option maxHeartbeats 16000000
namespace Go.Proofs.YtjlgejennghhlaaGreatDoor.Fw
open Go.RowKit
def Qrf:By×Int->Value->World->Prop:=fun a v _=>v=.agg #[.string (ba a.1),.int .i64 a.2]
theorem RD.kind {w:World} {R:Nat} {ts:List Tk} (h:RD w R ts) (j:Nat) (y:j<Qd7.length):w.cell? ⟨3,j,none⟩=some (.string (ba Qd7[j])):=h.env.kd j y
theorem RD.verb {w:World} {R:Nat} {ts:List Tk} (h:RD w R ts) (j:Nat) (y:j<Qdh.length):w.cell? ⟨5,j,none⟩=some (.string (ba Qdh[j])):=h.env.vb j y
theorem QcU (R:Nat) (ts:List Tk) (w:World) (h:RD w R ts):Calls Tryz.prog 113 #[.pointer (some ⟨R,0,none⟩)] w fun e w'=>Rs (Qbe ts) Qrf e w.heap.size w' R/\But R w w':=by
 have hR:=h.lt;have H0:=Hk (h.below (Qaa w (.cells #[.string ⟨#[]⟩,.int .i64 0] 64)));have X0:=Hk (Box.new w [.string ⟨#[]⟩,.int .i64 0] 64 _ rfl);have aa:=Hk (But.of (R:=R) (Qaa w (.cells #[.string ⟨#[]⟩,.int .i64 0] 64)));clear h;go_enter Tryz.func113,Tryz.ntmps113;go_wp2_with (go_at_call 112;fail);refine(Qav R ts _ H0.out).mono ?_;rintro e V ⟨⟨a,y,v,hp,rfl,Z,ah⟩|⟨er,hp,ai⟩,M⟩
 ·unfold encS at Z;subst Z;have HC:=Hk (show Qbe ts=(if Qar y=Qny then .ok ((a,1),y.tail) else if Qar y=Qge then .ok ((a,2),y.tail) else wrongP 3 y) by rw[Qbe,hp];rfl);have aP:=(aa.out.then M).size;have B1:=Hk ((aa.out.then M).box (.cells #[.string (ba a),.int .i64 0] 64));have H1:=Hk (ah.below (Qaa V (.cells #[.string (ba a),.int .i64 0] 64)));have X1:=Hk ((X0.out.but M (by omega)).below (Qaa V (.cells #[.string (ba a),.int .i64 0] 64)));have C1:=Hk (Box.new V [.string (ba a),.int .i64 0] 64 _ rfl);have aS:w.heap.size<V.heap.size:=by have:=M.size;simp at this;omega
  clear hp ah M;go_wp2_with fail;generalize ar:V.alloc (.cells #[.string (ba a),.int .i64 0] 64)=W1 at*;generalize V.heap.size=cb at*;clear ar
  go_loopg [4] 3 (fun g i wr=>∃k:Nat,1<=k/\k<=3/\i=.int .i64 k/\3-k<=g/\Aside (RD wr R y/\But R w wr/\Box wr w.heap.size [.string ⟨#[]⟩,.int .i64 0]/\Box wr cb [.string (ba a),.int .i64 0]/\(2<=k->Qar y≠Qny)/\(3<=k->Qar y≠Qge)))
  case atStart=>exact⟨1,by omega,by omega,rfl,by omega,H1.out,B1.out,X1.out,C1.out,fun h=>absurd h (by omega),fun h=>absurd h (by omega)⟩
  case round=>
   clear H1 B1 X1 C1;obtain⟨k,aO,aR,rfl,hg,F⟩:=hrel;have hk:k=1\/k=2\/k=3:=by omega
   rcases hk with rfl|rfl|rfl
   ·have Z:=F.out.1.kind 1 (by decide);rw[show Qd7[1]=Qny from rfl] at Z;have az:=F.out.1.env.size 3 (by simp[Qa5]);have N:=Hk (Qcs Qny R y wr F.out.1 (by simp[Qny]))
    by_cases hm:Qar y=Qny
    ·rw[if_pos hm,show(Qar y==Qny)=true by simp[hm]] at N;have U:=Hk (show Qbe ts=.ok ((a,1),y.tail) by rw[HC.out,if_pos hm]);clear hm;go_wp2_with (go_at_call 114;fail);refine N.out.mono ?_;rintro e w2 ⟨rfl,H,D⟩;have J:=Hk (F.out.2.2.2.1.but D (by omega));have c0:=J.out.cell 0 rfl;have c1:=J.out.cell 1 rfl;have d1:=J.out.fz 1;have aq:=J.out.lt;have C3:=Hk (J.out.set 1 (.int .i64 1));have I:=Hk ((F.out.2.2.1.but D (by omega)).other (k':=cb) 1 (.int .i64 1) (by omega));have H3:=Hk (H.set (k:=cb) (i:=1) (v:=.int .i64 1) (by omega));have B3:=Hk ((F.out.2.1.then D).put (k:=cb) (i:=1) (by omega) (.int .i64 1));have u0:=C3.out.cell 0 rfl;have u1:=C3.out.cell 1 rfl;clear H D;have x0:=I.out.cell 0 rfl;have y0:=I.out.fz 0;have x1:=I.out.cell 1 rfl;have y1:=I.out.fz 1;have ay:=I.out.lt;have ab:=Hk ((H3.out.set (i:=0) (v:=.string (ba a)) hR).set (i:=1) (v:=.int .i64 1) hR);have ae:=Hk ((B3.out.put (Nat.le_refl _) (.string (ba a)) (i:=0)).put (Nat.le_refl _) (.int .i64 1) (i:=1));have K:=Hk ((I.out.set 0 (.string (ba a))).set 1 (.int .i64 1));have z0:=K.out.cell 0 rfl;have z1:=K.out.cell 1 rfl;clear K;go_wp2;refine bodyPost_ret (v:=.agg #[.string (ba a),.int .i64 1]) (by simp[results,Tryz.results113,go_sem,z0,z1]) rfl ?_;exact⟨Or.inl ⟨_,_,_,U.out,rfl,rfl,ab.out⟩,ae.out⟩
    ·rw[if_neg hm,show(Qar y==Qny)=false by simp[hm]] at N;have ac:=Hk hm;clear hm;go_wp2_with (go_at_call 114;fail);refine N.out.mono ?_;rintro e w2 ⟨rfl,H,D⟩;have O:=Hk (Ai H (Ai (F.out.2.1.then D) (Ai (F.out.2.2.1.but D (by omega)) (F.out.2.2.2.1.but D (by omega)))));clear H D;go_wp2
     go_roundg (3-2)
     case measure=>omega
     case rel=>exact⟨2,by omega,by omega,by go_num,Nat.le_refl _,O.out.1,O.out.2.1,O.out.2.2.1,O.out.2.2.2,fun _=>ac.out,fun h=>absurd h (by omega)⟩
   ·have Z:=F.out.1.kind 2 (by decide);rw[show Qd7[2]=Qge from rfl] at Z;have az:=F.out.1.env.size 3 (by simp[Qa5]);have N:=Hk (Qcs Qge R y wr F.out.1 (by simp[Qge]))
    by_cases hm:Qar y=Qge
    ·rw[if_pos hm,show(Qar y==Qge)=true by simp[hm]] at N;have U:=Hk (show Qbe ts=.ok ((a,2),y.tail) by rw[HC.out,if_neg (F.out.2.2.2.2.1 (by omega)),if_pos hm]);clear hm;go_wp2_with (go_at_call 114;fail);refine N.out.mono ?_;rintro e w2 ⟨rfl,H,D⟩;have J:=Hk (F.out.2.2.2.1.but D (by omega));have c0:=J.out.cell 0 rfl;have c1:=J.out.cell 1 rfl;have d1:=J.out.fz 1;have aq:=J.out.lt;have C3:=Hk (J.out.set 1 (.int .i64 2));have I:=Hk ((F.out.2.2.1.but D (by omega)).other (k':=cb) 1 (.int .i64 2) (by omega));have H3:=Hk (H.set (k:=cb) (i:=1) (v:=.int .i64 2) (by omega));have B3:=Hk ((F.out.2.1.then D).put (k:=cb) (i:=1) (by omega) (.int .i64 2));have u0:=C3.out.cell 0 rfl;have u1:=C3.out.cell 1 rfl;clear H D;have x0:=I.out.cell 0 rfl;have y0:=I.out.fz 0;have x1:=I.out.cell 1 rfl;have y1:=I.out.fz 1;have ay:=I.out.lt;have ab:=Hk ((H3.out.set (i:=0) (v:=.string (ba a)) hR).set (i:=1) (v:=.int .i64 2) hR);have ae:=Hk ((B3.out.put (Nat.le_refl _) (.string (ba a)) (i:=0)).put (Nat.le_refl _) (.int .i64 2) (i:=1));have K:=Hk ((I.out.set 0 (.string (ba a))).set 1 (.int .i64 2));have z0:=K.out.cell 0 rfl;have z1:=K.out.cell 1 rfl;clear K;go_wp2;refine bodyPost_ret (v:=.agg #[.string (ba a),.int .i64 2]) (by simp[results,Tryz.results113,go_sem,z0,z1]) rfl ?_;exact⟨Or.inl ⟨_,_,_,U.out,rfl,rfl,ab.out⟩,ae.out⟩
    ·rw[if_neg hm,show(Qar y==Qge)=false by simp[hm]] at N;have ac:=Hk hm;clear hm;go_wp2_with (go_at_call 114;fail);refine N.out.mono ?_;rintro e w2 ⟨rfl,H,D⟩;have O:=Hk (Ai H (Ai (F.out.2.1.then D) (Ai (F.out.2.2.1.but D (by omega)) (F.out.2.2.2.1.but D (by omega)))));clear H D;go_wp2
     go_roundg (3-3)
     case measure=>omega
     case rel=>exact⟨3,by omega,by omega,by go_num,Nat.le_refl _,O.out.1,O.out.2.1,O.out.2.2.1,O.out.2.2.2,fun _=>F.out.2.2.2.2.1 (by omega),fun _=>ac.out⟩
   ·have U:=Hk (show Qbe ts=.error (3,Qa4 y) by rw[HC.out,if_neg (F.out.2.2.2.2.1 (by omega)),if_neg (F.out.2.2.2.2.2 (by omega))];rfl);have au:=F.out.2.1.size;go_wp2_with (go_at_call 83;refine(Qbb _ _ _ _ F.out.1).mono ?_;rintro e aQ ⟨rfl,rfl⟩);exact⟨rfl,Or.inr ⟨_,U.out,QcT _ _ _ au⟩,F.out.2.1.box _⟩
 ·obtain⟨b',rfl,t0,t1,tB,tl⟩:=ai;have U:=Hk (show Qbe ts=.error er by rw[Qbe,hp];rfl);go_wp2;exact⟨rfl,Or.inr ⟨_,U.out,b',rfl,t0,t1,by first|omega|(simp at tB;omega),tl⟩,aa.out.then M⟩
theorem Qpy (j:Nat) (y:j<Qbu.length):∃h:j+1<Qdh.length,Qdh[j+1]=Qbu[j]/\Qbu[j]≠[]:=by
 refine⟨by simp[Qdh];omega,by simp[Qdh],?_⟩;have:∀x∈Qbu,x≠[]:=by decide
 exact this _ (List.getElem_mem y)
theorem Qpz {ts:List Tk} {j:Nat} (y:j<Qbu.length) (he:Qar ts=Qbu[j]) (D:∀(i:Nat) (h:i<Qbu.length),i<j->Qar ts≠Qbu[i]):Qch ts=.ok ((j:Int)+1,ts.tail):=by
 have h:Qbu.findIdx? (·==Qar ts)=some j:=by
  rw[List.findIdx?_eq_some_iff_getElem];exact⟨y,by simp[he],fun i hi=>by simpa using fun h=>D i (by omega) hi h.symm⟩
 rw[Qch,h]
theorem Qmp {ts:List Tk} (H:∀(i:Nat) (h:i<Qbu.length),Qar ts≠Qbu[i]):Qch ts=.error (3,Qa4 ts):=by
 have h:Qbu.findIdx? (·==Qar ts)=none:=by
  rw[List.findIdx?_eq_none_iff];intro y F;obtain⟨j,D,rfl⟩:=List.getElem_of_mem F;simpa using fun h=>H j D h.symm
 rw[Qch,h];rfl
theorem QbI (R:Nat) (ts:List Tk) (w:World) (h:RD w R ts):Calls Tryz.prog 154 #[.pointer (some ⟨R,0,none⟩)] w fun e w'=>Rs (Qch ts) encI e w.heap.size w' R/\But R w w':=by
 have hR:=h.lt;have H:=Hk h;clear h;go_enter Tryz.func154,Tryz.ntmps154;go_wp2_with fail
 go_loopg [3] 10 (fun g i wr=>∃j:Nat,j<=9/\i=.int .i64 ((j:Int)+1)/\9-j<=g/\Aside (RD wr R ts/\But R w wr/\∀(i:Nat) (h:i<Qbu.length),i<j->Qar ts≠Qbu[i]))
 case atStart=>exact⟨0,by omega,rfl,by omega,H.out,But.refl _ _,fun i _ h=>absurd h (by omega)⟩
 case round=>
  obtain⟨j,hj,rfl,hg,D⟩:=hrel;have ag:IntKind.i64.wrap ((j:Int)+1)=(j:Int)+1:=by rw[IntKind.wrap_i64];omega
  by_cases hlt:j<9
  ·have O:(j:Int)+1<10:=by omega
   obtain⟨N,M,I⟩:=Qpy j hlt;have hv:=D.out.1.verb (j+1) N;rw[M] at hv;have ai:=D.out.1.env.size 5 (by simp[Qa5]);obtain⟨x,U⟩:∃x,Qbu[j]'hlt=x:=⟨_,rfl⟩;rw[U] at hv I;have HX:=Hk U;have K:=Hk (Qcs x R ts wr D.out.1 I);have af:((j:Int)+1).toNat=j+1:=by omega
   clear M N I U
   by_cases hm:Qar ts=x
   ·rw[if_pos hm,show(Qar ts==x)=true by simp[hm]] at K;have V:=Hk (Qpz hlt (by rw[HX.out];exact hm) D.out.2.2);clear hm;go_wp2_with (go_at_call 114;fail);refine K.out.mono ?_;rintro e w2 ⟨rfl,y,F⟩;have J:=Hk (Ai y (D.out.2.1.then F));clear y F;go_wp2;go_ret;exact⟨Or.inl ⟨_,_,_,V.out,rfl,rfl,J.out.1⟩,J.out.2⟩
   ·rw[if_neg hm,show(Qar ts==x)=false by simp[hm]] at K;have HN:=Hk (show∀(i:Nat) (h:i<Qbu.length),i<j+1->Qar ts≠Qbu[i] from fun i h1 h2=>by
     by_cases h3:i<j
     ·exact D.out.2.2 i h1 h3
     ·have:i=j:=by omega
      subst this;have aa:Qbu[i]'h1=x:=HX.out;rw[aa];exact hm)
    clear hm;go_wp2_with (go_at_call 114;fail);refine K.out.mono ?_;rintro e w2 ⟨rfl,y,F⟩;have J:=Hk (Ai y (D.out.2.1.then F));clear y F;go_wp2
    go_roundg (9-(j+1))
    case measure=>omega
    case rel=>exact⟨j+1,by omega,by go_num,Nat.le_refl _,J.out.1,J.out.2,HN.out⟩
  ·have O:¬((j:Int)+1<10):=by omega
   have V:=Hk (Qmp (ts:=ts) (fun i h=>D.out.2.2 i h (by have:Qbu.length=9:=rfl;omega)));have Z:=D.out.2.1.size;go_wp2_with (go_at_call 83;refine(Qbb _ _ _ _ D.out.1).mono ?_;rintro e ah ⟨rfl,rfl⟩);exact⟨rfl,Or.inr ⟨_,V.out,QcT _ _ _ Z⟩,D.out.2.1.box _⟩
def Qn9:Bool->Value->World->Prop:=fun a v _=>v=.bool a
def QaF (x:By) (n:Nat) (ts:List Tk):PE Bool:=if Qar ts=x then(if n=16 then wrongP 4 ts else .ok (true,ts)) else .ok (false,ts)
theorem Qci (x:By) (n:Nat) (R:Nat) (ts:List Tk) (w:World) (h:RD w R ts):Calls Tryz.prog 79 #[.pointer (some ⟨R,0,none⟩),.string (ba x),.int .i64 n] w fun e w'=>Rs (QaF x n ts) Qn9 e w.heap.size w' R/\Below w.heap.size w w':=by
 have H:=Hk h;have HI:=Hk (Qph x R ts w h);clear h
 by_cases hm:Qar ts=x
 ·rw[show(Qar ts==x)=true by simp[hm]] at HI
  by_cases hn:n=16
  ·have y:=Hk (show QaF x n ts=.error (4,Qa4 ts) by rw[QaF,if_pos hm,if_pos hn];rfl);have D:((n:Int)==16)=true:=by simp[hn]
   clear hm hn;go_enter Tryz.func79,Tryz.ntmps79;go_wp2_with (first|(go_at_call 110;refine HI.out.mono ?_;rintro e w' ⟨rfl,rfl⟩)|(go_at_call 83;refine(Qbb _ _ _ _ H.out).mono ?_;rintro e F ⟨rfl,rfl⟩));exact⟨rfl,Or.inr ⟨_,y.out,QcT _ _ _ (Nat.le_refl _)⟩,Qaa _ _⟩
  ·have y:=Hk (show QaF x n ts=.ok (true,ts) by rw[QaF,if_pos hm,if_neg hn]);have D:((n:Int)==16)=false:=by simp;omega
   clear hm hn;go_enter Tryz.func79,Tryz.ntmps79;go_wp2_with (go_at_call 110;refine HI.out.mono ?_;rintro e w' ⟨rfl,rfl⟩);go_ret;exact⟨Or.inl ⟨_,_,_,y.out,rfl,rfl,H.out⟩,Below.refl _ _⟩
 ·rw[show(Qar ts==x)=false by simp[hm]] at HI;have y:=Hk (show QaF x n ts=.ok (false,ts) by rw[QaF,if_neg hm]);clear hm;go_enter Tryz.func79,Tryz.ntmps79;go_wp2_with (go_at_call 110;refine HI.out.mono ?_;rintro e w' ⟨rfl,rfl⟩);go_ret;exact⟨Or.inl ⟨_,_,_,y.out,rfl,rfl,H.out⟩,Below.refl _ _⟩
theorem bind_ok {ε α β:Type} {p:Except ε β} {r:Except ε α} {K:α->Except ε β} {x:α} (h:p=r.bind K) (y:r=.ok x):p=K x:=by rw[h,y];rfl
theorem Qaf {ε α β:Type} {p:Except ε β} {r:Except ε α} {K:α->Except ε β} {x:ε} (h:p=r.bind K) (y:r=.error x):p=.error x:=by rw[h,y];rfl
theorem Qac (w:World) (a:Addr) (v:Value):(w.setCell a v).heap.size=w.heap.size:=by simp[World.setCell]
def QrG:FOut->Value->World->Prop:=fun a v _=>v=.agg #[.int .i64 (a.at_:Nat),.string (ba a.name),.string (ba a.from_)]
theorem QeO (R:Nat) (ts:List Tk) (w:World) (h:RD w R ts):Calls Tryz.prog 82 #[.pointer (some ⟨R,0,none⟩)] w fun e w'=>Rs (Qbs ts) QrG e w.heap.size w' R/\But R w w':=by
 have hR:=h.lt;have H0:=Hk h;have B0:=Hk (But.refl R w);have E0:=Hk (Qbs.eq_1 ts);clear h;go_enter Tryz.func82,Tryz.ntmps82;have H1:=Hk (H0.out.below (Qaa _ (.cells #[.int .i64 0,.string ⟨#[]⟩,.string ⟨#[]⟩] 60)));have B2:=Hk (B0.out.box (.cells #[.int .i64 0,.string ⟨#[]⟩,.string ⟨#[]⟩] 60));have X3:=Hk (Box.new w [.int .i64 0,.string ⟨#[]⟩,.string ⟨#[]⟩] 60 _ rfl);clear H0 B0;go_wp2_with (go_at_call 111;fail);refine(QaK Qjy R ts _ H1.out (by decide)).mono ?_;rintro e K ⟨⟨M,bh,v,y,rfl,I,D⟩|⟨er,y,F⟩,aj⟩
 rotate_left
 ·obtain⟨b',rfl,t0,t1,tB,tl⟩:=F;have HP:=Hk (Qaf E0.out y);clear y;go_wp2;exact⟨rfl,Or.inr ⟨_,HP.out,b',rfl,t0,t1,Nat.le_trans B2.out.size tB,tl⟩,B2.out.then aj⟩
 subst I;have he:=bind_ok E0.out y
 dsimp only at he
 have E4:=Hk he;clear he y;have H5:=Hk D;have B6:=Hk (B2.out.then aj);have X7:=Hk (X3.out.but aj (by omega));have q8:=X7.out.lt;have bb:=aj.size
 try simp only[World.size_alloc,Qac] at bb
 clear H1 B2 X3 E0 D aj;have aJ:=Hk (H5.out.below (Qaa _ (.cells #[.int .i64 (M:Nat),.string ⟨#[]⟩,.string ⟨#[]⟩] 60)));have ap:=Hk (B6.out.box (.cells #[.int .i64 (M:Nat),.string ⟨#[]⟩,.string ⟨#[]⟩] 60));have aF:=Hk (X7.out.below (Qaa _ (.cells #[.int .i64 (M:Nat),.string ⟨#[]⟩,.string ⟨#[]⟩] 60)));have aE:=Hk (Box.new K [.int .i64 (M:Nat),.string ⟨#[]⟩,.string ⟨#[]⟩] 60 _ rfl);clear H5 B6 X7;go_wp2_with (go_at_call 112;fail);refine(Qav R bh _ aJ.out).mono ?_;rintro e w2 ⟨⟨J,bi,v,y,rfl,I,D⟩|⟨er,y,F⟩,U⟩
 rotate_left
 ·obtain⟨b',rfl,t0,t1,tB,tl⟩:=F;have HP:=Hk (Qaf E4.out y);clear y;go_wp2;exact⟨rfl,Or.inr ⟨_,HP.out,b',rfl,t0,t1,Nat.le_trans ap.out.size tB,tl⟩,ap.out.then U⟩
 unfold encS at I;subst I;have he:=bind_ok E4.out y
 dsimp only at he
 have aq:=Hk he;clear he y;have aC:=Hk D;have aK:=Hk (ap.out.then U);have ar:=Hk (aF.out.but U (by omega));have bG:=ar.out.lt;have O:=Hk (aE.out.but U (by omega));have bA:=O.out.lt;have aP:=U.size
 try simp only[World.size_alloc,Qac] at aP
 clear aJ ap aF aE E4 D U;have bj:=O.out.cell 1 rfl;have bs:=O.out.fz 1;have bm:=O.out.lt;have aH:=Hk (aC.out.set (k:=K.heap.size) (i:=1) (v:=.string (ba J)) (by omega));have ao:=Hk (aK.out.put (k:=K.heap.size) (i:=1) (by omega) (.string (ba J)));have aD:=Hk (ar.out.other (k':=K.heap.size) 1 (.string (ba J)) (by omega));have aA:Hid (Box (w2.setCell ⟨K.heap.size,1,none⟩ (.string (ba J))) K.heap.size [.int .i64 (M:Nat),.string (ba J),.string ⟨#[]⟩]):=Hk (O.out.set 1 (.string (ba J)));clear aC aK ar O;go_wp2_with (go_at_call 111;fail);refine(QaK [61] R bi _ aH.out (by decide)).mono ?_;rintro e w3 ⟨⟨a3,a6,v,y,rfl,I,D⟩|⟨er,y,F⟩,V⟩
 rotate_left
 ·obtain⟨b',rfl,t0,t1,tB,tl⟩:=F;have HP:=Hk (Qaf aq.out y);clear y;go_wp2;exact⟨rfl,Or.inr ⟨_,HP.out,b',rfl,t0,t1,Nat.le_trans ao.out.size tB,tl⟩,ao.out.then V⟩
 subst I;have he:=bind_ok aq.out y
 dsimp only at he
 have aw:=Hk he;clear he y;have aN:=Hk D;have ak:=Hk (ao.out.then V);have ax:=Hk (aD.out.but V (by omega));have bJ:=ax.out.lt;have av:=Hk (aA.out.but V (by omega));have bB:=av.out.lt;have aU:=V.size
 try simp only[World.size_alloc,Qac] at aU
 clear aH ao aD aA aq D V;go_wp2_with (go_at_call 112;fail);refine(Qav R a6 _ aN.out).mono ?_;rintro e w4 ⟨⟨N,bd,v,y,rfl,I,D⟩|⟨er,y,F⟩,ab⟩
 rotate_left
 ·obtain⟨b',rfl,t0,t1,tB,tl⟩:=F;have HP:=Hk (Qaf aw.out y);clear y;go_wp2;exact⟨rfl,Or.inr ⟨_,HP.out,b',rfl,t0,t1,Nat.le_trans ak.out.size tB,tl⟩,ak.out.then ab⟩
 unfold encS at I;subst I;have he:=bind_ok aw.out y
 dsimp only at he
 have ay:=Hk he;clear he y;have aL:=Hk D;have aM:=Hk (ak.out.then ab);have au:=Hk (ax.out.but ab (by omega));have bD:=au.out.lt;have Z:=Hk (av.out.but ab (by omega));have bF:=Z.out.lt;have aR:=ab.size
 try simp only[World.size_alloc,Qac] at aR
 clear aN ak ax av aw D ab;have bw:=Z.out.cell 2 rfl;have bz:=Z.out.fz 2;have bo:=Z.out.lt;have aG:=Hk (aL.out.set (k:=K.heap.size) (i:=2) (v:=.string (ba N)) (by omega));have al:=Hk (aM.out.put (k:=K.heap.size) (i:=2) (by omega) (.string (ba N)));have aB:=Hk (au.out.other (k':=K.heap.size) 2 (.string (ba N)) (by omega));have aI:Hid (Box (w4.setCell ⟨K.heap.size,2,none⟩ (.string (ba N))) K.heap.size [.int .i64 (M:Nat),.string (ba J),.string (ba N)]):=Hk (Z.out.set 2 (.string (ba N)));clear aL aM au Z;go_wp2_with (go_at_call 111;fail);refine(QaK [59] R bd _ aG.out (by decide)).mono ?_;rintro e w5 ⟨⟨a5,bE,v,y,rfl,I,D⟩|⟨er,y,F⟩,aa⟩
 rotate_left
 ·obtain⟨b',rfl,t0,t1,tB,tl⟩:=F;have HP:=Hk (Qaf ay.out y);clear y;go_wp2;exact⟨rfl,Or.inr ⟨_,HP.out,b',rfl,t0,t1,Nat.le_trans al.out.size tB,tl⟩,al.out.then aa⟩
 subst I;have he:=bind_ok ay.out y
 dsimp only at he
 have a9:=Hk he;clear he y;have be:=Hk D;have a8:=Hk (al.out.then aa);have H:=Hk (aB.out.but aa (by omega));have bI:=H.out.lt;have ai:=Hk (aI.out.but aa (by omega));have bC:=ai.out.lt;have aQ:=aa.size
 try simp only[World.size_alloc,Qac] at aQ
 clear aG al aB aI ay D aa;have br:=ai.out.cell 0 rfl;have bp:=ai.out.cell 1 rfl;have bu:=ai.out.cell 2 rfl;have bn:=ai.out.lt;have x0:=H.out.cell 0 rfl;have y0:=H.out.fz 0;have x1:=H.out.cell 1 rfl;have y1:=H.out.fz 1;have x2:=H.out.cell 2 rfl;have y2:=H.out.fz 2;have bH:=H.out.lt;have a7:=Hk (((be.out.set (i:=0) (v:=.int .i64 (M:Nat)) hR).set (i:=1) (v:=.string (ba J)) hR).set (i:=2) (v:=.string (ba N)) hR);have aZ:=Hk (((a8.out.put (Nat.le_refl _) (.int .i64 (M:Nat)) (i:=0)).put (Nat.le_refl _) (.string (ba J)) (i:=1)).put (Nat.le_refl _) (.string (ba N)) (i:=2));have am:=Hk (((H.out.set 0 (.int .i64 (M:Nat))).set 1 (.string (ba J))).set 2 (.string (ba N)));have z0:=am.out.cell 0 rfl;have z1:=am.out.cell 1 rfl;have z2:=am.out.cell 2 rfl;clear am;go_wp2;refine bodyPost_ret (v:=.agg #[.int .i64 (M:Nat),.string (ba J),.string (ba N)]) (by simp[results,Tryz.results82,go_sem,z0,z1,z2]) rfl ?_;exact⟨Or.inl ⟨_,_,_,a9.out,rfl,rfl,a7.out⟩,aZ.out⟩
end Go.Proofs.YtjlgejennghhlaaGreatDoor.Fw
