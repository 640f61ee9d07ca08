import Derived.Test.YtjlgejennghhlaaGreatDoorQ01
import Derived.Test.YtjlgejennghhlaaGreatDoorQ36
set_option linter.unusedSimpArgs false
set_option linter.unusedVariables false
set_option linter.unusedSectionVars false
set_option maxRecDepth 1000000
set_option maxHeartbeats 16000000
namespace Go.Proofs.YtjlgejennghhlaaGreatDoor.Fw
open Go.RowKit
def Qqs (r:By) (a:Nat) (e:Ending) (w':World) (B:Nat):Prop:=
 (∃k n:Nat,QaZ r=some (k,n)/\e=.returned (.agg #[.int .i64 (k:Nat),.string (ba (r.take n)),.int .i64 (a:Nat)]))\/(QaZ r=none/\Thr e w' B (3,a))
theorem Qmz (l:By) (a:Nat) (h:a<=l.length):(ba l).extract a l.length=ba (l.drop a):=by
 rw[QjA]
 congr 1
 congr 1
 rw[List.take_of_length_le];simp
theorem Qh4 (c:UInt8):∀l:By,Lib.indexByte l c=match l.findIdx? (·==c) with |some n=>(n:Int)|none=>-1
 |[]=>rfl
 |b::l=>by
  unfold Lib.indexByte;rw[List.findIdx?_cons,Qh4 c l]
  by_cases h:(b==c)=true
  ·simp[h]
  ·simp only[h,if_false,Bool.false_eq_true]
   cases hf:l.findIdx? (·==c) with
   |none=>simp
   |some n=>
    have:¬((n:Int)==-1)=true:=by simp
    simp[this]
theorem Qom (k:Nat) (D:k<QaD.length) (w:World):(Instr.index 184 (.agg #[.string (ba QaD[0]),.string (ba QaD[1]),.string (ba QaD[2]),.string (ba QaD[3]),.string (ba QaD[4]),.string (ba QaD[5]),.string (ba QaD[6]),.string (ba QaD[7]),.string (ba QaD[8]),.string (ba QaD[9]),.string (ba QaD[10]),.string (ba QaD[11]),.string (ba QaD[12])]) (.int .i64 (k:Nat))).run Tryz.prog w=.ok (.string (ba QaD[k])) w:=by
 have y:QaD.length=13:=rfl;have h:k=0\/k=1\/k=2\/k=3\/k=4\/k=5\/k=6\/k=7\/k=8\/k=9\/k=10\/k=11\/k=12:=by omega
 rcases h with rfl|rfl|rfl|rfl|rfl|rfl|rfl|rfl|rfl|rfl|rfl|rfl|rfl<;>(show _=_;kernel_rfl)
theorem QpE (x:By) (k:Nat) (D:k<QaD.length) (F:∀(j:Nat) (h:j<QaD.length),j<k->QaD[j].isPrefixOf x=false) (y:QaD[k].isPrefixOf x=true):(QaD.find? fun m=>m.isPrefixOf x)=some QaD[k]:=by
 rw[List.find?_eq_some_iff_getElem];exact⟨y,k,D,rfl,fun j hj=>by simpa using F j (by omega) hj⟩
theorem QmA (x:By) (F:∀(j:Nat) (h:j<QaD.length),QaD[j].isPrefixOf x=false):(QaD.find? fun m=>m.isPrefixOf x)=none:=by
 rw[List.find?_eq_none];intro m D;obtain⟨j,y,rfl⟩:=List.getElem_of_mem D;simp[F j y]
theorem Qon {m x:By} (h:m.isPrefixOf x=true):x.take m.length=m:=by
 rw[List.isPrefixOf_iff_prefix] at h;exact(List.prefix_iff_eq_take.1 h).symm
theorem QiW (l:By) (n:Nat):(ba l).extract 0 n=ba (l.take n):=by rw[QjA];simp
theorem QdM (p:UInt8->Bool) (l:By):runL p l<=l.length:=by
 unfold runL;exact(List.takeWhile_sublist p).length_le
theorem QmB (w:World) (c:Int) (a:Nat) {B b:Nat} (h:B<=w.heap.size) (y:b=w.heap.size):Thr (.panicked [{v:=.iface 100 (.pointer (some ⟨b,0,none⟩)),recovered:=false}]) (w.alloc (.cells #[.int .i64 c,.int .i64 (a:Nat)] 155)) B (c,a):=by
 subst y;exact⟨w.heap.size,rfl,by simp,by simp,h,by simp⟩
theorem QmC (l:By) (a:Nat) (w:World) (ha:a<l.length) (hl:l.length<=1000000) (hE:FEnv w):
 Calls Tryz.prog 77 #[.string (ba l),.int .i64 (a:Nat)] w fun e w'=>Qqs (l.drop a) a e w' w.heap.size/\Below w.heap.size w w':=by
 have a5:(ba l).size=l.length:=Qdi l;have a4:(a:Int)<=(l.length:Int):=by omega
 have M:=Hk hE;have a3:=mkF;clear hE;obtain⟨c,r,al⟩:∃c r,l.drop a=c::r:=by
  cases h:l.drop a with
  |nil=>rw[List.drop_eq_nil_iff] at h;omega
  |cons c r=>exact⟨c,r,rfl⟩
 have HD:=Hk (Qmz l a (by omega));have ah:=Hk (show(c::r).length<=1000000 by rw[<-al];simp;omega);rw[al] at HD⊢;clear al;go_enter Tryz.func77,Tryz.ntmps77;go_wp2_with fail;rw[HD.out];have aX:(ba (c::r)).size=r.length+1:=Qdi (c::r);have a7:r.length+1<=1000000:=ah.out;have a2:(ba (c::r))[0]'(by omega)=c:=rfl;obtain⟨W,hW⟩:∃x,x=(((w.alloc (.cells #[.int .i64 0,.string ⟨#[]⟩,.int .i64 0] 143)).alloc (.cells #[.func (.func 105) #[] #[]] 133)).alloc (.cells #[.func (.func 106) #[] #[]] 133)):=⟨_,rfl⟩;rw[<-hW];have N:Hid (Box W w.heap.size [.int .i64 0,.string ⟨#[]⟩,.int .i64 0]/\Box W (w.heap.size+1) [.func (.func 105) #[] #[]]/\Box W (w.heap.size+1+1) [.func (.func 106) #[] #[]]/\Below w.heap.size w W):=by
  rw[hW];exact⟨((Box.new w _ _ _ rfl).below (Qaa _ _)).below (Qaa _ _),(Box.new _ _ _ _ (by simp)).below (Qaa _ _),Box.new _ _ _ _ (by simp),bel_box (bel_box (Qaa _ _) _) _⟩
 have aO:Tryz.prog.follows .mixedOrders=true:=by kernel_rfl
 clear hW HD;have q1:=N.out.2.1.cell 0 rfl;have q2:=N.out.2.2.1.cell 0 rfl
 cases hlow:Qnx c
 ·have K:=Hk (fun W'=>Qg2 c W');rw[hlow] at K;go_quiet ((go_at_call 105;exact Calls.quiet_of_same (K.out _)));have H:Hid (Box (W.drewN nq) w.heap.size [.int .i64 0,.string ⟨#[]⟩,.int .i64 0]/\Box (W.drewN nq) (w.heap.size+1) [.func (.func 105) #[] #[]]/\Box (W.drewN nq) (w.heap.size+1+1) [.func (.func 106) #[] #[]]/\Below w.heap.size w (W.drewN nq)):=⟨N.out.1,N.out.2.1,N.out.2.2.1,below_drewN N.out.2.2.2 _⟩;clear q1 q2 K;generalize W.drewN nq=V at*;clear N;have q1:=H.out.2.1.cell 0 rfl;have q2:=H.out.2.2.1.cell 0 rfl;have ak:=H.out.2.1.lt;have am:=H.out.2.2.1.lt
  cases hdig:digB c
  ·have K:=Hk (fun W'=>Qec c W');rw[hdig] at K;go_wp2_with fail;go_quiet ((go_at_call 106;exact Calls.quiet_of_same (K.out _)));have D:Hid (Box (V.drewN nq) w.heap.size [.int .i64 0,.string ⟨#[]⟩,.int .i64 0]/\Box (V.drewN nq) (w.heap.size+1) [.func (.func 105) #[] #[]]/\Box (V.drewN nq) (w.heap.size+1+1) [.func (.func 106) #[] #[]]/\Below w.heap.size w (V.drewN nq)):=⟨H.out.1,H.out.2.1,H.out.2.2.1,below_drewN H.out.2.2.2 _⟩;clear q1 q2 K;generalize V.drewN nq=U at*;clear H;have q1:=D.out.2.1.cell 0 rfl;have q2:=D.out.2.2.1.cell 0 rfl;have ak:=D.out.2.1.lt;have am:=D.out.2.2.1.lt
   cases hquo:(c==39)
   ·as_aux_lemma=>
     have ap:((c.toNat:Int)==39)=false:=by
      have aK:c≠39:=by simpa using hquo
      have:c.toNat≠39:=fun h=>aK (UInt8.toNat_inj.1 h)
      simp;omega
     have Z:=Hk (show QaZ (c::r)=(QaD.find? fun m=>m.isPrefixOf (c::r)).map fun m=>(3,m.length) by simp[QaZ,hlow,hdig,hquo]);clear hlow hdig hquo;have I:=M.out.size 1 (by simp[Qa5]);have m0:=(D.out.2.2.2.cell (p:=⟨1,0,none⟩) I).trans (M.out.mr 0 (by decide));have m1:=(D.out.2.2.2.cell (p:=⟨1,1,none⟩) I).trans (M.out.mr 1 (by decide));have m2:=(D.out.2.2.2.cell (p:=⟨1,2,none⟩) I).trans (M.out.mr 2 (by decide));have m3:=(D.out.2.2.2.cell (p:=⟨1,3,none⟩) I).trans (M.out.mr 3 (by decide));have m4:=(D.out.2.2.2.cell (p:=⟨1,4,none⟩) I).trans (M.out.mr 4 (by decide));have m5:=(D.out.2.2.2.cell (p:=⟨1,5,none⟩) I).trans (M.out.mr 5 (by decide));have m6:=(D.out.2.2.2.cell (p:=⟨1,6,none⟩) I).trans (M.out.mr 6 (by decide));have m7:=(D.out.2.2.2.cell (p:=⟨1,7,none⟩) I).trans (M.out.mr 7 (by decide));have m8:=(D.out.2.2.2.cell (p:=⟨1,8,none⟩) I).trans (M.out.mr 8 (by decide));have m9:=(D.out.2.2.2.cell (p:=⟨1,9,none⟩) I).trans (M.out.mr 9 (by decide));have aJ:=(D.out.2.2.2.cell (p:=⟨1,10,none⟩) I).trans (M.out.mr 10 (by decide));have aM:=(D.out.2.2.2.cell (p:=⟨1,11,none⟩) I).trans (M.out.mr 11 (by decide));have aH:=(D.out.2.2.2.cell (p:=⟨1,12,none⟩) I).trans (M.out.mr 12 (by decide));go_wp2_with fail;clear m0 m1 m2 m3 m4 m5 m6 m7 m8 m9 aJ aM aH
     go_loopg [59] 13 (fun g i wr=>∃k:Nat,k<=13/\i=.int .i64 k/\13-k<=g/\Aside (∀(j:Nat) (h:j<QaD.length),j<k->QaD[j].isPrefixOf (c::r)=false)/\wr=U)
     case atStart=>exact⟨0,by omega,rfl,by omega,fun j _ h=>absurd h (by omega),rfl⟩
     case round=>
      obtain⟨k,hk,rfl,hg,HA,ao⟩:=hrel;have hwr':=ao.symm;clear ao;subst hwr'
      by_cases hlt:k<13
      ·have ar:(k:Int)<13:=by omega
       have a1:=fun w'=>Qom k hlt w'
       have aa:=Hk (Tryz.strings_HasPrefix (ba (c::r)) (ba (QaD[k]'hlt)) U);rw[ba_list,ba_list] at aa;unfold Lib.hasPrefix at aa
       cases hp:(QaD[k]'hlt).isPrefixOf (c::r)
       ·have aN:=Hk (show∀(j:Nat) (h:j<QaD.length),j<k+1->QaD[j].isPrefixOf (c::r)=false from fun j h1 h2=>by
         by_cases h3:j<k
         ·exact HA.out j h1 h3
         ·have:j=k:=by omega
          subst this;exact hp)
        rw[hp] at aa;clear hp;go_wp2_with (go_at_call 109;refine aa.out.mono ?_;rintro e w' ⟨rfl,rfl⟩)
        go_roundg (13-(k+1))
        case measure=>omega
        case rel=>exact⟨k+1,by omega,by go_num,Nat.le_refl _,aN.out,rfl⟩
       ·have ai:=Hk (show QaZ (c::r)=some (3,(QaD[k]'hlt).length) by rw[Z.out,QpE (c::r) k hlt HA.out hp];rfl);have aF:=Hk (Qon hp);rw[hp] at aa;clear hp;generalize QaD[k]'hlt=m at*;go_wp2_with (go_at_call 109;fail);refine aa.out.mono ?_;rintro e V2 ⟨rfl,J⟩;have hv2':=J.symm;clear J;subst hv2';have y:=Hk D.out.1;have x0:=y.out.cell 0 rfl;have y0:=y.out.fz 0;have x1:=y.out.cell 1 rfl;have y1:=y.out.fz 1;have x2:=y.out.cell 2 rfl;have y2:=y.out.fz 2;have aj:=y.out.lt;have F:=Hk (((y.out.set 0 (.int .i64 3)).set 1 (.string (ba m))).set 2 (.int .i64 (a:Nat)));have O:=Hk (((D.out.2.2.2.setCell (p:=⟨w.heap.size,0,none⟩) (Nat.le_refl _) (.int .i64 3)).setCell (p:=⟨w.heap.size,1,none⟩) (Nat.le_refl _) (.string (ba m))).setCell (p:=⟨w.heap.size,2,none⟩) (Nat.le_refl _) (.int .i64 (a:Nat)));have z0:=F.out.cell 0 rfl;have z1:=F.out.cell 1 rfl;have z2:=F.out.cell 2 rfl;clear F;go_wp2;refine bodyPost_ret (v:=.agg #[.int .i64 3,.string (ba m),.int .i64 (a:Nat)]) (by simp[results,Tryz.results77,go_sem,z0,z1,z2]) rfl ?_;exact⟨Or.inl ⟨3,m.length,ai.out,by rw[aF.out];rfl⟩,O.out⟩
      ·have ar:¬((k:Int)<13):=by omega
       have ai:=Hk (show QaZ (c::r)=none by rw[Z.out,QmA (c::r) (fun j h=>HA.out j h (by have:QaD.length=13:=rfl;omega))];rfl);go_wp2_with (go_at_call 78;refine(wrong_any _ _ _).mono ?_;rintro e aL ⟨rfl,rfl⟩);exact⟨rfl,Or.inr ⟨ai.out,QmB _ _ _ D.out.2.2.2.size rfl⟩,bel_box D.out.2.2.2 _⟩
   ·as_aux_lemma=>
     have ap:((c.toNat:Int)==39)=true:=by rw[beq_iff_eq.1 hquo];rfl
     have aq:(ba (c::r)).extract 1 (r.length+1)=ba r:=by rw[QjA];simp
     have aE:=Hk aq;clear aq;go_wp2_with (go_at_call 108;fail);rw[aE.out];refine(Tryz.strings_IndexByte (ba r) 39 U).mono ?_;rintro e V2 ⟨rfl,J⟩;have hv2':=J.symm;clear J;subst hv2';rw[ba_list,show((39:Int).toNat.toUInt8)=(39:UInt8) from rfl,Qh4]
     cases hf:r.findIdx? (·==39) with
     |none=>
      have Z:=Hk (show QaZ (c::r)=none by simp[QaZ,hlow,hdig,beq_iff_eq.1 hquo,hf,show Qnx 39=false from rfl,show digB 39=false from rfl]);clear hlow hdig hquo ap hf
      dsimp only
      go_wp2_with (go_at_call 78;refine(wrong_any _ _ _).mono ?_;rintro e aL ⟨rfl,rfl⟩);exact⟨rfl,Or.inr ⟨Z.out,QmB _ _ _ D.out.2.2.2.size rfl⟩,bel_box D.out.2.2.2 _⟩
     |some n=>
      have Z:=Hk (show QaZ (c::r)=some (2,n+2) by simp[QaZ,hlow,hdig,beq_iff_eq.1 hquo,hf,show Qnx 39=false from rfl,show digB 39=false from rfl]);have a6:n<r.length:=(List.findIdx?_eq_some_iff_getElem.1 hf).1;have aZ:¬((n:Int)<0):=by omega
      have ao:IntKind.i64.wrap ((n:Int)+2)=((n+2:Nat):Int):=by rw[IntKind.wrap_i64];omega
      have a8:((n+2:Nat):Int)<=((r.length+1:Nat):Int):=by omega
      clear hlow hdig hquo ap hf
      dsimp only
      have y:=Hk D.out.1;have x0:=y.out.cell 0 rfl;have y0:=y.out.fz 0;have x1:=y.out.cell 1 rfl;have y1:=y.out.fz 1;have x2:=y.out.cell 2 rfl;have y2:=y.out.fz 2;have aj:=y.out.lt;have F:=Hk (((y.out.set 0 (.int .i64 2)).set 1 (.string ((ba (c::r)).extract 0 (n+2)))).set 2 (.int .i64 (a:Nat)));have O:=Hk (((D.out.2.2.2.setCell (p:=⟨w.heap.size,0,none⟩) (Nat.le_refl _) (.int .i64 2)).setCell (p:=⟨w.heap.size,1,none⟩) (Nat.le_refl _) (.string ((ba (c::r)).extract 0 (n+2)))).setCell (p:=⟨w.heap.size,2,none⟩) (Nat.le_refl _) (.int .i64 (a:Nat)));have z0:=F.out.cell 0 rfl;have z1:=F.out.cell 1 rfl;have z2:=F.out.cell 2 rfl;clear F;go_wp2;refine bodyPost_ret (v:=.agg #[.int .i64 2,.string ((ba (c::r)).extract 0 (n+2)),.int .i64 (a:Nat)]) (by simp[results,Tryz.results77,go_sem,z0,z1,z2]) rfl ?_;exact⟨Or.inl ⟨2,(n+2),Z.out,by rw[QiW];rfl⟩,O.out⟩
  ·as_aux_lemma=>
    have Z:=Hk (show QaZ (c::r)=some (1,runL digB (c::r)) by simp[QaZ,hlow,hdig]);have K:=Hk (fun W'=>Qec c W');rw[hdig] at K;go_wp2_with fail;go_quiet ((go_at_call 106;exact Calls.quiet_of_same (K.out _)));have D:Hid (Box (V.drewN nq) w.heap.size [.int .i64 0,.string ⟨#[]⟩,.int .i64 0]/\Box (V.drewN nq) (w.heap.size+1) [.func (.func 105) #[] #[]]/\Box (V.drewN nq) (w.heap.size+1+1) [.func (.func 106) #[] #[]]/\Below w.heap.size w (V.drewN nq)):=⟨H.out.1,H.out.2.1,H.out.2.2.1,below_drewN H.out.2.2.2 _⟩;clear q1 q2 K;generalize V.drewN nq=U at*;clear H;have q1:=D.out.2.1.cell 0 rfl;have q2:=D.out.2.2.1.cell 0 rfl;have ak:=D.out.2.1.lt;have am:=D.out.2.2.1.lt;clear hlow hdig;go_wp2_with (go_at_call 76;fail);refine(QpC (c::r) U ah.out).mono ?_;rintro e V2 ⟨rfl,J⟩;have hv2':=J.symm;clear J;subst hv2';have ad:=QdM digB (c::r);generalize runL digB (c::r)=n at*;have hrn':n<=r.length+1:=ad;have aG:(n:Int)<=((r.length+1:Nat):Int):=by omega
    clear ad;have y:=Hk D.out.1;have x0:=y.out.cell 0 rfl;have y0:=y.out.fz 0;have x1:=y.out.cell 1 rfl;have y1:=y.out.fz 1;have x2:=y.out.cell 2 rfl;have y2:=y.out.fz 2;have aj:=y.out.lt;have F:=Hk (((y.out.set 0 (.int .i64 1)).set 1 (.string ((ba (c::r)).extract 0 n))).set 2 (.int .i64 (a:Nat)));have O:=Hk (((D.out.2.2.2.setCell (p:=⟨w.heap.size,0,none⟩) (Nat.le_refl _) (.int .i64 1)).setCell (p:=⟨w.heap.size,1,none⟩) (Nat.le_refl _) (.string ((ba (c::r)).extract 0 n))).setCell (p:=⟨w.heap.size,2,none⟩) (Nat.le_refl _) (.int .i64 (a:Nat)));have z0:=F.out.cell 0 rfl;have z1:=F.out.cell 1 rfl;have z2:=F.out.cell 2 rfl;clear F;go_wp2;refine bodyPost_ret (v:=.agg #[.int .i64 1,.string ((ba (c::r)).extract 0 n),.int .i64 (a:Nat)]) (by simp[results,Tryz.results77,go_sem,z0,z1,z2]) rfl ?_;exact⟨Or.inl ⟨1,n,Z.out,by rw[QiW];rfl⟩,O.out⟩
 ·as_aux_lemma=>
   have Z:=Hk (show QaZ (c::r)=some (0,runL lowdigB (c::r)) by simp[QaZ,hlow]);have K:=Hk (fun W'=>Qg2 c W');rw[hlow] at K;go_quiet ((go_at_call 105;exact Calls.quiet_of_same (K.out _)));have H:Hid (Box (W.drewN nq) w.heap.size [.int .i64 0,.string ⟨#[]⟩,.int .i64 0]/\Box (W.drewN nq) (w.heap.size+1) [.func (.func 105) #[] #[]]/\Box (W.drewN nq) (w.heap.size+1+1) [.func (.func 106) #[] #[]]/\Below w.heap.size w (W.drewN nq)):=⟨N.out.1,N.out.2.1,N.out.2.2.1,below_drewN N.out.2.2.2 _⟩;clear q1 q2 K;generalize W.drewN nq=V at*;clear N;have q1:=H.out.2.1.cell 0 rfl;have q2:=H.out.2.2.1.cell 0 rfl;have ak:=H.out.2.1.lt;have am:=H.out.2.2.1.lt;clear hlow;go_wp2_with (go_at_call 76;fail);refine(QpD (c::r) V ah.out ⟨w.heap.size+1,0,none⟩ ⟨w.heap.size+1+1,0,none⟩ q1 q2).mono ?_;rintro e V2 ⟨rfl,J⟩;have hv2':=J.symm;clear J;subst hv2';have ad:=QdM lowdigB (c::r);generalize runL lowdigB (c::r)=n at*;have hrn':n<=r.length+1:=ad;have aG:(n:Int)<=((r.length+1:Nat):Int):=by omega
   clear ad;have y:=Hk H.out.1;have x0:=y.out.cell 0 rfl;have y0:=y.out.fz 0;have x1:=y.out.cell 1 rfl;have y1:=y.out.fz 1;have x2:=y.out.cell 2 rfl;have y2:=y.out.fz 2;have aj:=y.out.lt;have F:=Hk (((y.out.set 0 (.int .i64 0)).set 1 (.string ((ba (c::r)).extract 0 n))).set 2 (.int .i64 (a:Nat)));have O:=Hk (((H.out.2.2.2.setCell (p:=⟨w.heap.size,0,none⟩) (Nat.le_refl _) (.int .i64 0)).setCell (p:=⟨w.heap.size,1,none⟩) (Nat.le_refl _) (.string ((ba (c::r)).extract 0 n))).setCell (p:=⟨w.heap.size,2,none⟩) (Nat.le_refl _) (.int .i64 (a:Nat)));have z0:=F.out.cell 0 rfl;have z1:=F.out.cell 1 rfl;have z2:=F.out.cell 2 rfl;clear F;go_wp2;refine bodyPost_ret (v:=.agg #[.int .i64 0,.string ((ba (c::r)).extract 0 n),.int .i64 (a:Nat)]) (by simp[results,Tryz.results77,go_sem,z0,z1,z2]) rfl ?_;exact⟨Or.inl ⟨0,n,Z.out,by rw[QiW];rfl⟩,O.out⟩
end Go.Proofs.YtjlgejennghhlaaGreatDoor.Fw
