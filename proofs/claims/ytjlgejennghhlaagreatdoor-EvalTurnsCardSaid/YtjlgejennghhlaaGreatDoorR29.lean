import Derived.Test.YtjlgejennghhlaaGreatDoorR01
import Derived.Test.YtjlgejennghhlaaGreatDoorR28
set_option linter.unusedSimpArgs false
set_option linter.unusedVariables false
set_option linter.unusedSectionVars false
set_option maxRecDepth 1000000
set_option maxHeartbeats 16000000
namespace Go.Proofs.YtjlgejennghhlaaGreatDoor.Fw
open Go.RowKit
def QqA (r:By) (a:Nat) (e:Ending) (w':World) (B:Nat):Prop:=
 (∃k n:Nat,Qa1 r=some (k,n)/\e=.returned (.agg #[.int .i64 (k:Nat),.string (ba (r.take n)),.int .i64 (a:Nat)]))\/(Qa1 r=none/\Thr e w' B (3,a))
theorem QmN (l:By) (a:Nat) (h:a<=l.length):(ba l).extract a l.length=ba (l.drop a):=by
 rw[QjO]
 congr 1
 congr 1
 rw[List.take_of_length_le];simp
theorem Qia (c:UInt8):∀l:By,Lib.indexByte l c=match l.findIdx? (·==c) with |some n=>(n:Int)|none=>-1
 |[]=>rfl
 |b::l=>by
  unfold Lib.indexByte;rw[List.findIdx?_cons,Qia c l]
  by_cases h:(b==c)=true
  ·simp[h]
  ·simp only[h,if_false,Bool.false_eq_true]
   cases hf:l.findIdx? (·==c) with
   |none=>simp
   |some n=>
    have:¬((n:Int)==-1)=true:=by simp
    simp[this]
theorem Qov (k:Nat) (D:k<QaD.length) (w:World):(Instr.index 184 (.agg #[.string (ba QaD[0]),.string (ba QaD[1]),.string (ba QaD[2]),.string (ba QaD[3]),.string (ba QaD[4]),.string (ba QaD[5]),.string (ba QaD[6]),.string (ba QaD[7]),.string (ba QaD[8]),.string (ba QaD[9]),.string (ba QaD[10]),.string (ba QaD[11]),.string (ba QaD[12])]) (.int .i64 (k:Nat))).run Tryz.prog w=.ok (.string (ba QaD[k])) w:=by
 have y:QaD.length=13:=rfl;have h:k=0\/k=1\/k=2\/k=3\/k=4\/k=5\/k=6\/k=7\/k=8\/k=9\/k=10\/k=11\/k=12:=by omega
 rcases h with rfl|rfl|rfl|rfl|rfl|rfl|rfl|rfl|rfl|rfl|rfl|rfl|rfl<;>(show _=_;kernel_rfl)
theorem QpL (x:By) (k:Nat) (D:k<QaD.length) (E:∀(j:Nat) (h:j<QaD.length),j<k->QaD[j].isPrefixOf x=false) (y:QaD[k].isPrefixOf x=true):(QaD.find? fun m=>m.isPrefixOf x)=some QaD[k]:=by
 rw[List.find?_eq_some_iff_getElem];exact⟨y,k,D,rfl,fun j hj=>by simpa using E j (by omega) hj⟩
theorem QmO (x:By) (E:∀(j:Nat) (h:j<QaD.length),QaD[j].isPrefixOf x=false):(QaD.find? fun m=>m.isPrefixOf x)=none:=by
 rw[List.find?_eq_none];intro m D;obtain⟨j,y,rfl⟩:=List.getElem_of_mem D;simp[E j y]
theorem Qow {m x:By} (h:m.isPrefixOf x=true):x.take m.length=m:=by
 rw[List.isPrefixOf_iff_prefix] at h;exact(List.prefix_iff_eq_take.1 h).symm
theorem Qi9 (l:By) (n:Nat):(ba l).extract 0 n=ba (l.take n):=by rw[QjO];simp
theorem QdR (p:UInt8->Bool) (l:By):runL p l<=l.length:=by
 unfold runL;exact(List.takeWhile_sublist p).length_le
theorem QmP (w:World) (c:Int) (a:Nat) {B b:Nat} (h:B<=w.heap.size) (y:b=w.heap.size):Thr (.panicked [{v:=.iface 100 (.pointer (some ⟨b,0,none⟩)),recovered:=false}]) (w.alloc (.cells #[.int .i64 c,.int .i64 (a:Nat)] 155)) B (c,a):=by
 subst y;exact⟨w.heap.size,rfl,by simp,by simp,h,by simp⟩
theorem QmQ (l:By) (a:Nat) (w:World) (ha:a<l.length) (hl:l.length<=1000000) (hE:FEnv w):
 Calls Tryz.prog 77 #[.string (ba l),.int .i64 (a:Nat)] w fun e w'=>QqA (l.drop a) a e w' w.heap.size/\Below w.heap.size w w':=by
 have a4:(ba l).size=l.length:=Qdk l;have a3:(a:Int)<=(l.length:Int):=by omega
 have K:=Hk hE;have a2:=mkF;clear hE;obtain⟨c,r,ak⟩:∃c r,l.drop a=c::r:=by
  cases h:l.drop a with
  |nil=>rw[List.drop_eq_nil_iff] at h;omega
  |cons c r=>exact⟨c,r,rfl⟩
 have HD:=Hk (QmN l a (by omega));have ag:=Hk (show(c::r).length<=1000000 by rw[<-ak];simp;omega);rw[ak] at HD⊢;clear ak;go_enter Tryz.func77,Tryz.ntmps77;go_wp2_with fail;rw[HD.out];have aW:(ba (c::r)).size=r.length+1:=Qdk (c::r);have a6:r.length+1<=1000000:=ag.out;have a1:(ba (c::r))[0]'(by omega)=c:=rfl;obtain⟨W,hW⟩:∃x,x=(((w.alloc (.cells #[.int .i64 0,.string ⟨#[]⟩,.int .i64 0] 143)).alloc (.cells #[.func (.func 105) #[] #[]] 133)).alloc (.cells #[.func (.func 106) #[] #[]] 133)):=⟨_,rfl⟩;rw[<-hW];have M:Hid (Box W w.heap.size [.int .i64 0,.string ⟨#[]⟩,.int .i64 0]/\Box W (w.heap.size+1) [.func (.func 105) #[] #[]]/\Box W (w.heap.size+1+1) [.func (.func 106) #[] #[]]/\Below w.heap.size w W):=by
  rw[hW];exact⟨((Box.new w _ _ _ rfl).below (Qaa _ _)).below (Qaa _ _),(Box.new _ _ _ _ (by simp)).below (Qaa _ _),Box.new _ _ _ _ (by simp),bel_box (bel_box (Qaa _ _) _) _⟩
 have aN:Tryz.prog.follows .mixedOrders=true:=by kernel_rfl
 clear hW HD;have q1:=M.out.2.1.cell 0 rfl;have q2:=M.out.2.2.1.cell 0 rfl
 cases hlow:QnF c
 ·have J:=Hk (fun W'=>Qg7 c W');rw[hlow] at J;go_quiet ((go_at_call 105;exact Calls.quiet_of_same (J.out _)));have F:Hid (Box (W.drewN nq) w.heap.size [.int .i64 0,.string ⟨#[]⟩,.int .i64 0]/\Box (W.drewN nq) (w.heap.size+1) [.func (.func 105) #[] #[]]/\Box (W.drewN nq) (w.heap.size+1+1) [.func (.func 106) #[] #[]]/\Below w.heap.size w (W.drewN nq)):=⟨M.out.1,M.out.2.1,M.out.2.2.1,below_drewN M.out.2.2.2 _⟩;clear q1 q2 J;generalize W.drewN nq=V at*;clear M;have q1:=F.out.2.1.cell 0 rfl;have q2:=F.out.2.2.1.cell 0 rfl;have aj:=F.out.2.1.lt;have al:=F.out.2.2.1.lt
  cases hdig:digB c
  ·have J:=Hk (fun W'=>Qei c W');rw[hdig] at J;go_wp2_with fail;go_quiet ((go_at_call 106;exact Calls.quiet_of_same (J.out _)));have D:Hid (Box (V.drewN nq) w.heap.size [.int .i64 0,.string ⟨#[]⟩,.int .i64 0]/\Box (V.drewN nq) (w.heap.size+1) [.func (.func 105) #[] #[]]/\Box (V.drewN nq) (w.heap.size+1+1) [.func (.func 106) #[] #[]]/\Below w.heap.size w (V.drewN nq)):=⟨F.out.1,F.out.2.1,F.out.2.2.1,below_drewN F.out.2.2.2 _⟩;clear q1 q2 J;generalize V.drewN nq=U at*;clear F;have q1:=D.out.2.1.cell 0 rfl;have q2:=D.out.2.2.1.cell 0 rfl;have aj:=D.out.2.1.lt;have al:=D.out.2.2.1.lt
   cases hquo:(c==39)
   ·as_aux_lemma=>
     have ao:((c.toNat:Int)==39)=false:=by
      have aJ:c≠39:=by simpa using hquo
      have:c.toNat≠39:=fun h=>aJ (UInt8.toNat_inj.1 h)
      simp;omega
     have O:=Hk (show Qa1 (c::r)=(QaD.find? fun m=>m.isPrefixOf (c::r)).map fun m=>(3,m.length) by simp[Qa1,hlow,hdig,hquo]);clear hlow hdig hquo;have H:=K.out.size 1 (by simp[Qa7]);have m0:=(D.out.2.2.2.cell (p:=⟨1,0,none⟩) H).trans (K.out.mr 0 (by decide));have m1:=(D.out.2.2.2.cell (p:=⟨1,1,none⟩) H).trans (K.out.mr 1 (by decide));have m2:=(D.out.2.2.2.cell (p:=⟨1,2,none⟩) H).trans (K.out.mr 2 (by decide));have m3:=(D.out.2.2.2.cell (p:=⟨1,3,none⟩) H).trans (K.out.mr 3 (by decide));have m4:=(D.out.2.2.2.cell (p:=⟨1,4,none⟩) H).trans (K.out.mr 4 (by decide));have m5:=(D.out.2.2.2.cell (p:=⟨1,5,none⟩) H).trans (K.out.mr 5 (by decide));have m6:=(D.out.2.2.2.cell (p:=⟨1,6,none⟩) H).trans (K.out.mr 6 (by decide));have m7:=(D.out.2.2.2.cell (p:=⟨1,7,none⟩) H).trans (K.out.mr 7 (by decide));have m8:=(D.out.2.2.2.cell (p:=⟨1,8,none⟩) H).trans (K.out.mr 8 (by decide));have m9:=(D.out.2.2.2.cell (p:=⟨1,9,none⟩) H).trans (K.out.mr 9 (by decide));have aI:=(D.out.2.2.2.cell (p:=⟨1,10,none⟩) H).trans (K.out.mr 10 (by decide));have aL:=(D.out.2.2.2.cell (p:=⟨1,11,none⟩) H).trans (K.out.mr 11 (by decide));have aG:=(D.out.2.2.2.cell (p:=⟨1,12,none⟩) H).trans (K.out.mr 12 (by decide));go_wp2_with fail;clear m0 m1 m2 m3 m4 m5 m6 m7 m8 m9 aI aL aG
     go_loopg [59] 13 (fun g i wr=>∃k:Nat,k<=13/\i=.int .i64 k/\13-k<=g/\Aside (∀(j:Nat) (h:j<QaD.length),j<k->QaD[j].isPrefixOf (c::r)=false)/\wr=U)
     case atStart=>exact⟨0,by omega,rfl,by omega,fun j _ h=>absurd h (by omega),rfl⟩
     case round=>
      obtain⟨k,hk,rfl,hg,HA,am⟩:=hrel;have hwr':=am.symm;clear am;subst hwr'
      by_cases hlt:k<13
      ·have aq:(k:Int)<13:=by omega
       have a0:=fun w'=>Qov k hlt w'
       have Z:=Hk (Tryz.strings_HasPrefix (ba (c::r)) (ba (QaD[k]'hlt)) U);rw[ba_list,ba_list] at Z;unfold Lib.hasPrefix at Z
       cases hp:(QaD[k]'hlt).isPrefixOf (c::r)
       ·have aM:=Hk (show∀(j:Nat) (h:j<QaD.length),j<k+1->QaD[j].isPrefixOf (c::r)=false from fun j h1 h2=>by
         by_cases h3:j<k
         ·exact HA.out j h1 h3
         ·have:j=k:=by omega
          subst this;exact hp)
        rw[hp] at Z;clear hp;go_wp2_with (go_at_call 109;refine Z.out.mono ?_;rintro e w' ⟨rfl,rfl⟩)
        go_roundg (13-(k+1))
        case measure=>omega
        case rel=>exact⟨k+1,by omega,by go_num,Nat.le_refl _,aM.out,rfl⟩
       ·have ah:=Hk (show Qa1 (c::r)=some (3,(QaD[k]'hlt).length) by rw[O.out,QpL (c::r) k hlt HA.out hp];rfl);have aE:=Hk (Qow hp);rw[hp] at Z;clear hp;generalize QaD[k]'hlt=m at*;go_wp2_with (go_at_call 109;fail);refine Z.out.mono ?_;rintro e V2 ⟨rfl,I⟩;have hv2':=I.symm;clear I;subst hv2';have y:=Hk D.out.1;have x0:=y.out.cell 0 rfl;have y0:=y.out.fz 0;have x1:=y.out.cell 1 rfl;have y1:=y.out.fz 1;have x2:=y.out.cell 2 rfl;have y2:=y.out.fz 2;have ai:=y.out.lt;have E:=Hk (((y.out.set 0 (.int .i64 3)).set 1 (.string (ba m))).set 2 (.int .i64 (a:Nat)));have N:=Hk (((D.out.2.2.2.setCell (p:=⟨w.heap.size,0,none⟩) (Nat.le_refl _) (.int .i64 3)).setCell (p:=⟨w.heap.size,1,none⟩) (Nat.le_refl _) (.string (ba m))).setCell (p:=⟨w.heap.size,2,none⟩) (Nat.le_refl _) (.int .i64 (a:Nat)));have z0:=E.out.cell 0 rfl;have z1:=E.out.cell 1 rfl;have z2:=E.out.cell 2 rfl;clear E;go_wp2;refine bodyPost_ret (v:=.agg #[.int .i64 3,.string (ba m),.int .i64 (a:Nat)]) (by simp[results,Tryz.results77,go_sem,z0,z1,z2]) rfl ?_;exact⟨Or.inl ⟨3,m.length,ah.out,by rw[aE.out];rfl⟩,N.out⟩
      ·have aq:¬((k:Int)<13):=by omega
       have ah:=Hk (show Qa1 (c::r)=none by rw[O.out,QmO (c::r) (fun j h=>HA.out j h (by have:QaD.length=13:=rfl;omega))];rfl);go_wp2_with (go_at_call 78;refine(wrong_any _ _ _).mono ?_;rintro e aK ⟨rfl,rfl⟩);exact⟨rfl,Or.inr ⟨ah.out,QmP _ _ _ D.out.2.2.2.size rfl⟩,bel_box D.out.2.2.2 _⟩
   ·as_aux_lemma=>
     have ao:((c.toNat:Int)==39)=true:=by rw[beq_iff_eq.1 hquo];rfl
     have ap:(ba (c::r)).extract 1 (r.length+1)=ba r:=by rw[QjO];simp
     have aD:=Hk ap;clear ap;go_wp2_with (go_at_call 108;fail);rw[aD.out];refine(Tryz.strings_IndexByte (ba r) 39 U).mono ?_;rintro e V2 ⟨rfl,I⟩;have hv2':=I.symm;clear I;subst hv2';rw[ba_list,show((39:Int).toNat.toUInt8)=(39:UInt8) from rfl,Qia]
     cases hf:r.findIdx? (·==39) with
     |none=>
      have O:=Hk (show Qa1 (c::r)=none by simp[Qa1,hlow,hdig,beq_iff_eq.1 hquo,hf,show QnF 39=false from rfl,show digB 39=false from rfl]);clear hlow hdig hquo ao hf
      dsimp only
      go_wp2_with (go_at_call 78;refine(wrong_any _ _ _).mono ?_;rintro e aK ⟨rfl,rfl⟩);exact⟨rfl,Or.inr ⟨O.out,QmP _ _ _ D.out.2.2.2.size rfl⟩,bel_box D.out.2.2.2 _⟩
     |some n=>
      have O:=Hk (show Qa1 (c::r)=some (2,n+2) by simp[Qa1,hlow,hdig,beq_iff_eq.1 hquo,hf,show QnF 39=false from rfl,show digB 39=false from rfl]);have a5:n<r.length:=(List.findIdx?_eq_some_iff_getElem.1 hf).1;have aY:¬((n:Int)<0):=by omega
      have am:IntKind.i64.wrap ((n:Int)+2)=((n+2:Nat):Int):=by rw[IntKind.wrap_i64];omega
      have a7:((n+2:Nat):Int)<=((r.length+1:Nat):Int):=by omega
      clear hlow hdig hquo ao hf
      dsimp only
      have y:=Hk D.out.1;have x0:=y.out.cell 0 rfl;have y0:=y.out.fz 0;have x1:=y.out.cell 1 rfl;have y1:=y.out.fz 1;have x2:=y.out.cell 2 rfl;have y2:=y.out.fz 2;have ai:=y.out.lt;have E:=Hk (((y.out.set 0 (.int .i64 2)).set 1 (.string ((ba (c::r)).extract 0 (n+2)))).set 2 (.int .i64 (a:Nat)));have N:=Hk (((D.out.2.2.2.setCell (p:=⟨w.heap.size,0,none⟩) (Nat.le_refl _) (.int .i64 2)).setCell (p:=⟨w.heap.size,1,none⟩) (Nat.le_refl _) (.string ((ba (c::r)).extract 0 (n+2)))).setCell (p:=⟨w.heap.size,2,none⟩) (Nat.le_refl _) (.int .i64 (a:Nat)));have z0:=E.out.cell 0 rfl;have z1:=E.out.cell 1 rfl;have z2:=E.out.cell 2 rfl;clear E;go_wp2;refine bodyPost_ret (v:=.agg #[.int .i64 2,.string ((ba (c::r)).extract 0 (n+2)),.int .i64 (a:Nat)]) (by simp[results,Tryz.results77,go_sem,z0,z1,z2]) rfl ?_;exact⟨Or.inl ⟨2,(n+2),O.out,by rw[Qi9];rfl⟩,N.out⟩
  ·as_aux_lemma=>
    have O:=Hk (show Qa1 (c::r)=some (1,runL digB (c::r)) by simp[Qa1,hlow,hdig]);have J:=Hk (fun W'=>Qei c W');rw[hdig] at J;go_wp2_with fail;go_quiet ((go_at_call 106;exact Calls.quiet_of_same (J.out _)));have D:Hid (Box (V.drewN nq) w.heap.size [.int .i64 0,.string ⟨#[]⟩,.int .i64 0]/\Box (V.drewN nq) (w.heap.size+1) [.func (.func 105) #[] #[]]/\Box (V.drewN nq) (w.heap.size+1+1) [.func (.func 106) #[] #[]]/\Below w.heap.size w (V.drewN nq)):=⟨F.out.1,F.out.2.1,F.out.2.2.1,below_drewN F.out.2.2.2 _⟩;clear q1 q2 J;generalize V.drewN nq=U at*;clear F;have q1:=D.out.2.1.cell 0 rfl;have q2:=D.out.2.2.1.cell 0 rfl;have aj:=D.out.2.1.lt;have al:=D.out.2.2.1.lt;clear hlow hdig;go_wp2_with (go_at_call 76;fail);refine(QpJ (c::r) U ag.out).mono ?_;rintro e V2 ⟨rfl,I⟩;have hv2':=I.symm;clear I;subst hv2';have ac:=QdR digB (c::r);generalize runL digB (c::r)=n at*;have hrn':n<=r.length+1:=ac;have aF:(n:Int)<=((r.length+1:Nat):Int):=by omega
    clear ac;have y:=Hk D.out.1;have x0:=y.out.cell 0 rfl;have y0:=y.out.fz 0;have x1:=y.out.cell 1 rfl;have y1:=y.out.fz 1;have x2:=y.out.cell 2 rfl;have y2:=y.out.fz 2;have ai:=y.out.lt;have E:=Hk (((y.out.set 0 (.int .i64 1)).set 1 (.string ((ba (c::r)).extract 0 n))).set 2 (.int .i64 (a:Nat)));have N:=Hk (((D.out.2.2.2.setCell (p:=⟨w.heap.size,0,none⟩) (Nat.le_refl _) (.int .i64 1)).setCell (p:=⟨w.heap.size,1,none⟩) (Nat.le_refl _) (.string ((ba (c::r)).extract 0 n))).setCell (p:=⟨w.heap.size,2,none⟩) (Nat.le_refl _) (.int .i64 (a:Nat)));have z0:=E.out.cell 0 rfl;have z1:=E.out.cell 1 rfl;have z2:=E.out.cell 2 rfl;clear E;go_wp2;refine bodyPost_ret (v:=.agg #[.int .i64 1,.string ((ba (c::r)).extract 0 n),.int .i64 (a:Nat)]) (by simp[results,Tryz.results77,go_sem,z0,z1,z2]) rfl ?_;exact⟨Or.inl ⟨1,n,O.out,by rw[Qi9];rfl⟩,N.out⟩
 ·as_aux_lemma=>
   have O:=Hk (show Qa1 (c::r)=some (0,runL lowdigB (c::r)) by simp[Qa1,hlow]);have J:=Hk (fun W'=>Qg7 c W');rw[hlow] at J;go_quiet ((go_at_call 105;exact Calls.quiet_of_same (J.out _)));have F:Hid (Box (W.drewN nq) w.heap.size [.int .i64 0,.string ⟨#[]⟩,.int .i64 0]/\Box (W.drewN nq) (w.heap.size+1) [.func (.func 105) #[] #[]]/\Box (W.drewN nq) (w.heap.size+1+1) [.func (.func 106) #[] #[]]/\Below w.heap.size w (W.drewN nq)):=⟨M.out.1,M.out.2.1,M.out.2.2.1,below_drewN M.out.2.2.2 _⟩;clear q1 q2 J;generalize W.drewN nq=V at*;clear M;have q1:=F.out.2.1.cell 0 rfl;have q2:=F.out.2.2.1.cell 0 rfl;have aj:=F.out.2.1.lt;have al:=F.out.2.2.1.lt;clear hlow;go_wp2_with (go_at_call 76;fail);refine(QpK (c::r) V ag.out ⟨w.heap.size+1,0,none⟩ ⟨w.heap.size+1+1,0,none⟩ q1 q2).mono ?_;rintro e V2 ⟨rfl,I⟩;have hv2':=I.symm;clear I;subst hv2';have ac:=QdR lowdigB (c::r);generalize runL lowdigB (c::r)=n at*;have hrn':n<=r.length+1:=ac;have aF:(n:Int)<=((r.length+1:Nat):Int):=by omega
   clear ac;have y:=Hk F.out.1;have x0:=y.out.cell 0 rfl;have y0:=y.out.fz 0;have x1:=y.out.cell 1 rfl;have y1:=y.out.fz 1;have x2:=y.out.cell 2 rfl;have y2:=y.out.fz 2;have ai:=y.out.lt;have E:=Hk (((y.out.set 0 (.int .i64 0)).set 1 (.string ((ba (c::r)).extract 0 n))).set 2 (.int .i64 (a:Nat)));have N:=Hk (((F.out.2.2.2.setCell (p:=⟨w.heap.size,0,none⟩) (Nat.le_refl _) (.int .i64 0)).setCell (p:=⟨w.heap.size,1,none⟩) (Nat.le_refl _) (.string ((ba (c::r)).extract 0 n))).setCell (p:=⟨w.heap.size,2,none⟩) (Nat.le_refl _) (.int .i64 (a:Nat)));have z0:=E.out.cell 0 rfl;have z1:=E.out.cell 1 rfl;have z2:=E.out.cell 2 rfl;clear E;go_wp2;refine bodyPost_ret (v:=.agg #[.int .i64 0,.string ((ba (c::r)).extract 0 n),.int .i64 (a:Nat)]) (by simp[results,Tryz.results77,go_sem,z0,z1,z2]) rfl ?_;exact⟨Or.inl ⟨0,n,O.out,by rw[Qi9];rfl⟩,N.out⟩
end Go.Proofs.YtjlgejennghhlaaGreatDoor.Fw
