import Derived.Defers
import Derived.Recover
import Derived.Lib.ItoaLen
import Derived.Shelf.SlSortCmp.QuietGrown
import Derived.Test.YtjlgejennghhlaaGreatDoorR01
import Derived.Test.YtjlgejennghhlaaGreatDoorR30
import Derived.Test.YtjlgejennghhlaaGreatDoorR36
set_option linter.unusedSimpArgs false
set_option linter.unusedVariables false
set_option linter.unusedSectionVars false
set_option maxRecDepth 1000000
set_option maxHeartbeats 16000000
namespace Go.Proofs.YtjlgejennghhlaaGreatDoor.Fw
open Go.RowKit
theorem QmV {r:By} {k n:Nat} (h:Qa1 r=some (k,n)) (y:k=2):2<=n:=by
 subst y
 cases r with
 |nil=>simp[Qa1] at h
 |cons c r=>
  simp only[Qa1] at h;split at h
  ·simp at h
  ·split at h
   ·simp at h
   ·split at h
    ·cases hf:r.findIdx? (·==39) with
     |none=>rw[hf] at h;simp at h
     |some m=>rw[hf] at h;simp at h;omega
    ·cases hf:QaD.find? fun m=>m.isPrefixOf (c::r) with
     |none=>rw[hf] at h;simp at h
     |some m=>rw[hf] at h;simp at h
theorem QmW {r:By} {k n:Nat} (h:Qa1 r=some (k,n)) (D:k=1):∃c r',r=c::r'/\digB c=true:=by
 subst D
 cases r with
 |nil=>simp[Qa1] at h
 |cons c r=>
  simp only[Qa1] at h;split at h
  ·simp at h
  ·split at h
   ·rename_i y
    exact⟨c,r,rfl,y⟩
   ·split at h
    ·cases hf:r.findIdx? (·==39) with
     |none=>rw[hf] at h;simp at h
     |some m=>rw[hf] at h;simp at h
    ·cases hf:QaD.find? fun m=>m.isPrefixOf (c::r) with
     |none=>rw[hf] at h;simp at h
     |some m=>rw[hf] at h;simp at h
theorem QfW:∀(f:Nat) (l:By) (p n:Nat) (ts:List Tk) (L:Nat),QfQ f l p n=.ok ts->p+l.length<=L->n<=400->ts.length+n<=400/\∀t∈ts,t.1<=3/\t.2.1.length<=l.length/\t.2.2<=L/\(t.1=2->2<=t.2.1.length)/\(t.1=1->(t.2.1.head?.map (·.toNat))≠some 45)
 |0,l,p,n,ts,L,h,hL,hn=>by
  simp only[QfQ,Except.ok.injEq] at h;subst h;simpa using hn
 |f+1,l,p,n,ts,L,h,hL,hn=>by
  rw[Qej] at h;have U:=QdR blankB l;split at h
  ·simp only[Except.ok.injEq] at h;subst h;simpa using hn
  ·split at h
   ·cases h
   ·rename_i k len D
    split at h
    ·cases h
    ·rename_i M
     split at h
     ·cases h
     ·rename_i us K
      simp only[Except.ok.injEq] at h;subst h;obtain⟨O,H,I⟩:=Qib D;rw[List.length_drop] at H;obtain⟨N,J⟩:=QfW f _ _ _ us L K (by simp only[List.length_drop];omega) (by omega);refine⟨by simp only[List.length_cons];omega,fun t y=>?_⟩;rw[List.mem_cons] at y;rcases y with rfl|y
      ·refine⟨I,?_,(show p+runL blankB l<=L from by omega),fun h2=>?_,fun h1=>?_⟩
       ·simp only[List.length_take,List.length_drop];omega
       ·have:=QmV (k:=k) D h2;simp only[List.length_take,List.length_drop];omega
       ·obtain⟨c,r,F,E⟩:=QmW (k:=k) D h1;simp only[F];obtain⟨m,rfl⟩:∃m,len=m+1:=⟨len-1,by omega⟩;simp only[List.take_succ_cons,List.head?_cons,Option.map_some,ne_eq,Option.some.injEq];unfold digB at E;simp at E;omega
      ·obtain⟨a,b,c,d,e⟩:=J t y;simp only[List.length_drop] at b;exact⟨a,by omega,c,d,e⟩
theorem Qk1 (w:World):(Instr.typeAssert .nilIface 20 100 true).run Tryz.prog w=.ok (.tuple #[.pointer none,.bool false]) w:=by kernel_rfl
theorem QmX (a:Option Addr) (w:World):(Instr.typeAssert (.iface 100 (.pointer a)) 20 100 true).run Tryz.prog w=.ok (.tuple #[.pointer a,.bool true]) w:=by kernel_rfl
theorem QpM (w:World):(binOp BinOp.neq 20 .nilIface .nilIface).run Tryz.prog w=.ok (.bool false) w:=by kernel_rfl
theorem Qk2 (p:Addr) (w:World):
 CallsD Tryz.prog 44 #[.pointer (some p)] .returning w fun e u' w'=>e=.returned (.tuple #[])/\u'=.returning/\w'=w:=by
 have h:=Qk1;have y:=QpM;refine callsD_of_wpS Tryz.func44 rfl fun c₀ cs hu=>?_
 apply wpS_seq;apply wpS_region;simp[wpOpsS,go_sem,recoverD,hu,Tryz.ntmps44,Exit.thenS];simp only[Array.replicate_succ,Array.replicate_zero,List.push_toArray,List.append_toArray,List.nil_append,List.cons_append,List.setIfInBounds_toArray,List.set_cons_zero,List.set_cons_succ];refine wpS_of_wp ?_;go_wp2
 cases c₀
 simp_all [bodyPostS,results,Tryz.results44,Exit.thenS]
theorem QjZ (p b:Addr) (h:Value) (w:World) (D:w.cell? p=some h) (E:w.frozen? p=false):
 CallsD Tryz.prog 44 #[.pointer (some p)] (.panicking ({v:=.iface 100 (.pointer (some b)),recovered:=false}::[])) w fun e u' w'=>e=.returned (.tuple #[])/\u'=.panicking ({v:=.iface 100 (.pointer (some b)),recovered:=true}::[])/\w'=w.setCell p (.iface 100 (.pointer (some b))):=by
 have y:=QmX;refine callsD_of_wpS Tryz.func44 rfl fun c₀ cs hu=>?_
 apply wpS_seq;apply wpS_region;simp[wpOpsS,go_sem,recoverD,hu,Tryz.ntmps44,Exit.thenS];simp only[Array.replicate_succ,Array.replicate_zero,List.push_toArray,List.append_toArray,List.nil_append,List.cons_append,List.setIfInBounds_toArray,List.set_cons_zero,List.set_cons_succ];refine wpS_of_wp ?_;go_wp2
 cases c₀
 simp_all [bodyPostS,results,Tryz.results44,Exit.thenS]
theorem HI.mono {w:World} {B B':Nat} (y:B'<=B):∀{l:List FIn} {h:List Value},HI w B l h->HI w B' l h
 |[],[],_=>trivial
 |a::l,v::h,hh=>⟨own_mono y hh.1,HI.mono y hh.2⟩
 |[],_::_,hh=>hh.elim
 |_::_,[],hh=>hh.elim
theorem HJ.mono {w:World} {B B':Nat} (h:B'<=B):∀{l:List FJob} {y:List (Value×Value×Value)},HJ w B l y->HJ w B' l y
 |[],[],_=>trivial
 |a::l,v::y,hh=>⟨⟨own_mono h hh.1.1,own_mono h hh.1.2.1,own_mono h hh.1.2.2⟩,HJ.mono h hh.2⟩
 |[],_::_,hh=>hh.elim
 |_::_,[],hh=>hh.elim
theorem FlowO.mono {w:World} {B B':Nat} {I:List FIn} {D:Value} {J:List FJob} {F:Value} {O:List FOut} {E:Value} (h:FlowO w B I D J F O E) (y:B'<=B):FlowO w B' I D J F O E:=by
 obtain⟨⟨H,N,K⟩,⟨us,U,M⟩,h5⟩:=h;exact⟨⟨H,own_mono y N,K.mono y⟩,⟨us,own_mono y U,M.mono y⟩,own_mono y h5⟩
def QqB (r:Except (Int×Nat) Flw) (e:Ending) (B:Nat) (w':World):Prop:=
 (∃f vi vj vo,r=.ok f/\e=.returned (.tuple #[.agg #[vi,vj,vo],.nilIface])/\FlowO w' B f.ins vi f.jobs vj f.outs vo)\/
 (∃er b,r=.error er/\e=.returned (.tuple #[.agg #[.slice none 0 0,.slice none 0 0,.slice none 0 0],.iface 100 (.pointer (some ⟨b,0,none⟩))])/\w'.cell? ⟨b,0,none⟩=some (.int .i64 er.1)/\w'.cell? ⟨b,1,none⟩=some (.int .i64 er.2)/\B<=b/\b<w'.heap.size)
theorem QmY:∀(ts:List Tk) (j:Nat) (h:j<ts.length),(tkV ts)[j*3]? =some (.int .i64 (ts[j].1:Nat))/\(tkV ts)[j*3+1]? =some (.string (ba ts[j].2.1))/\(tkV ts)[j*3+2]? =some (.int .i64 (ts[j].2.2:Nat))
 |[],j,h=>by simp at h
 |t::r,0,h=>by simp[tkV]
 |t::r,j+1,h=>by
  have y:=QmY r j (by simpa using h);have e:tkV (t::r)=[.int .i64 (t.1:Nat),.string (ba t.2.1),.int .i64 (t.2.2:Nat)]++tkV r:=rfl;rw[e,show(j+1)*3=3+j*3 by omega];refine⟨?_,?_,?_⟩
  ·rw[List.getElem?_append_right (by simp)];simpa using y.1
  ·rw[List.getElem?_append_right (by simp;omega)];simpa [Nat.add_assoc] using y.2.1
  ·rw[List.getElem?_append_right (by simp;omega)];simpa [Nat.add_assoc] using y.2.2
theorem QqC {w:World} {v:Value} {ts:List Tk} {B:Nat} (U:w.ownsRow B 143 3 v ts.length (tkV ts)) (N:GoodT ts) (E:FEnv w):RD (w.alloc (.cells #[v] 105)) w.heap.size ts:=by
 obtain⟨t0,r0,J⟩:=N.ne;obtain⟨-,⟨-,K⟩|⟨g,h,Z,rfl,hB,F,V,hm,hs,O⟩⟩:=U
 ·rw[J] at K;simp at K
 have D:g<w.heap.size:=by
  rcases Nat.lt_or_ge g w.heap.size with q|q
  ·exact q
  ·rw[Array.getElem?_eq_none q] at F;simp at F
 have M:=Qaa w (.cells #[.slice (some ⟨g,0,none⟩) ts.length h] 105);have I:∀i x,(tkV ts)[i]? =some x->(w.alloc (.cells #[.slice (some ⟨g,0,none⟩) ts.length h] 105)).cell? ⟨g,0+i,none⟩=some x:=by
  intro i x y;rw[M.cell (p:=⟨g,0+i,none⟩) D];rw[<-O,List.getElem?_take] at y;split at y
  ·simp only[World.cell?,F,Nat.zero_add];simpa using y
  ·cases y
 refine⟨⟨g,0,h,by simp,V,D,fun j hj=>?_⟩,by simp,by simp,N,E.blocks (by simp) (fun q hq=>M.block q (E.size q hq)),fun q hq=>E.size q hq⟩;have H:=QmY ts j hj;exact⟨I _ _ H.1,I _ _ H.2.1,I _ _ H.2.2⟩
theorem QfX {l:By} {ts:List Tk} (D:l.length<=1000000) (h:Qb2 l=.ok ts):GoodT ts:=by
 unfold Qb2 at h
 cases hk:QfQ (l.length+1) l 0 0 with
 |error e=>rw[hk] at h;cases h
 |ok us=>
  rw[hk] at h;simp only[Except.ok.injEq] at h;subst h;obtain⟨F,E⟩:=QfW _ l 0 0 us l.length hk (by omega) (by omega);refine⟨⟨us,_,rfl,rfl,rfl⟩,fun t y=>?_,by simp;omega⟩;rw[List.mem_append] at y;rcases y with y|y
  ·obtain⟨a,b,c,d,e⟩:=E t y;exact⟨by omega,by omega,by omega,d,e⟩
  ·simp at y;subst y;exact⟨by simp,by simp,by simpa using D,by simp,by simp⟩
theorem parse_any (l:By) (w:World) (hl:l.length<=1000000) (hE:FEnv w):
 Calls Tryz.prog 17 #[.string (ba l)] w fun e w'=>QqB (parseF l) e w.heap.size w'/\Below w.heap.size w w':=by
 have aW:=mkF;have HE:=Hk hE;clear hE
 go_enter_defers Tryz.func17,Tryz.ntmps17
 go_wp2_with (go_at_call 45;fail);have I:=Hk (bel_box (Qaa w (.cells #[.slice none 0 0,.slice none 0 0,.slice none 0 0] 29)) (.cells #[.nilIface] 34));have X1:=Hk ((Box.new w [.slice none 0 0,.slice none 0 0,.slice none 0 0] 29 _ rfl).below (Qaa _ (.cells #[.nilIface] 34)));have Y1:=Hk (Box.new (w.alloc (.cells #[.slice none 0 0,.slice none 0 0,.slice none 0 0] 29)) [.nilIface] 34 (w.heap.size+1) (by simp));refine(Qk0 l _ hl (HE.out.blocks I.out.size (fun g hg=>I.out.block g (HE.out.size g hg)))).mono ?_;rintro e w2 ⟨⟨ts,v,J,rfl,aa⟩|⟨er,J,N⟩,D⟩
 ·have ab:=QfX hl J;obtain⟨V,F,rfl⟩:=own_slice aa;have X2:=Hk (X1.out.below D);have O:=Hk (Y1.out.below D);have B2:=Hk (bel_then I.out D);have aF:=Hk (QqC aa ab (HE.out.blocks B2.out.size (fun g hg=>B2.out.block g (HE.out.size g hg))));have au:=Hk (show parseF l=Qc7 ts by rw[parseF,J];rfl);have q1:=X2.out.lt;have q2:=O.out.lt;clear J aa ab D X1 Y1 I;go_wp2_with (go_at_call 46;fail);refine(QmM w2.heap.size ts _ aF.out).mono ?_;rintro e w4 ⟨⟨f,vi,vj,vo,hf,rfl,M⟩|⟨er,hf,N⟩,E⟩
  ·have HP:=Hk (show parseF l=.ok f by rw[au.out,hf]);have H:=Hk ((X2.out.below (Qaa _ (.cells #[.slice V ts.length F] 105))).but E (by omega));have K:=Hk ((O.out.below (Qaa _ (.cells #[.slice V ts.length F] 105))).but E (by omega));have B4:=Hk ((bel_box B2.out (.cells #[.slice V ts.length F] 105)).trans (E.below (B:=w.heap.size) (by omega) (by simp;omega)));have aH:=Hk M;obtain⟨a1,c1,e1⟩:∃a c,vi=.slice a f.ins.length c:=by obtain⟨vs,hr,-⟩:=M.ins;exact own_slice hr
   obtain⟨a2,c2,e2⟩:∃a c,vj=.slice a f.jobs.length c:=by obtain⟨vs,hr,-⟩:=M.jobs;exact own_slice hr
   obtain⟨a3,c3,e3⟩:∃a c,vo=.slice a f.outs.length c:=own_slice M.row;subst e1 e2 e3;have x0:=H.out.cell 0 rfl;have x1:=H.out.cell 1 rfl;have x2:=H.out.cell 2 rfl;have x3:=H.out.fz 0;have x4:=H.out.fz 1;have x5:=H.out.fz 2;have y0:=K.out.cell 0 rfl;have y1:=K.out.fz 0;have X5:=Hk (((H.out.set 0 (.slice a1 f.ins.length c1)).set 1 (.slice a2 f.jobs.length c2)).set 2 (.slice a3 f.outs.length c3));have q3:=H.out.lt;have q4:=K.out.lt;clear hf M E;go_wp2;refine leaves_cons (f:=44) (args:=#[.pointer (some ⟨w.heap.size+1,0,none⟩)]) (by simp) (by simp[go_sem]) ?_;refine(Qk2 ⟨w.heap.size+1,0,none⟩ _).mono ?_;rintro e u' w5 ⟨rfl,rfl,rfl⟩;have X6:=Hk (X5.out.other (k':=w.heap.size+1) 0 .nilIface (by omega));have Y6:=Hk ((((K.out.other (k':=w.heap.size) 0 (.slice a1 f.ins.length c1) (by omega)).other (k':=w.heap.size) 1 (.slice a2 f.jobs.length c2) (by omega)).other (k':=w.heap.size) 2 (.slice a3 f.outs.length c3) (by omega)).set 0 .nilIface);have z0:=X6.out.cell 0 rfl;have z1:=X6.out.cell 1 rfl;have z2:=X6.out.cell 2 rfl;have z3:=Y6.out.cell 0 rfl;have aC:w.heap.size+1<(w2.alloc (.cells #[.slice V ts.length F] 105)).heap.size+2:=by simp;omega
   have FL:=((((aH.out.imp (fun e z n v xs h=>ownsRow_setCell_below h (a:=⟨w.heap.size,0,none⟩) (by show w.heap.size<_;omega) (.slice a1 f.ins.length c1))).imp (fun e z n v xs h=>ownsRow_setCell_below h (a:=⟨w.heap.size,1,none⟩) (by show w.heap.size<_;omega) (.slice a2 f.jobs.length c2))).imp (fun e z n v xs h=>ownsRow_setCell_below h (a:=⟨w.heap.size,2,none⟩) (by show w.heap.size<_;omega) (.slice a3 f.outs.length c3))).imp (fun e z n v xs h=>ownsRow_setCell_below h (a:=⟨w.heap.size+1,0,none⟩) aC .nilIface)).mono (B':=w.heap.size) (by omega);refine⟨.tuple #[.agg #[.slice a1 f.ins.length c1,.slice a2 f.jobs.length c2,.slice a3 f.outs.length c3],.nilIface],by simp[results,Tryz.results17,go_sem,z0,z1,z2,z3],Or.inl ⟨f,_,_,_,HP.out,rfl,FL⟩,(((B4.out.setCell (p:=⟨w.heap.size,0,none⟩) (Nat.le_refl _) _).setCell (p:=⟨w.heap.size,1,none⟩) (Nat.le_refl _) _).setCell (p:=⟨w.heap.size,2,none⟩) (Nat.le_refl _) _).setCell (p:=⟨w.heap.size+1,0,none⟩) (by show w.heap.size<=w.heap.size+1;omega) _⟩
  ·obtain⟨y,rfl,t0,t1,tB,tl⟩:=N;have HP:=Hk (show parseF l=.error er by rw[au.out,hf]);have H:=Hk ((X2.out.below (Qaa _ (.cells #[.slice V ts.length F] 105))).but E (by omega));have K:=Hk ((O.out.below (Qaa _ (.cells #[.slice V ts.length F] 105))).but E (by omega));have B4:=Hk ((bel_box B2.out (.cells #[.slice V ts.length F] 105)).trans (E.below (B:=w.heap.size) (by omega) (by simp;omega)));have tB':w.heap.size+2<=y:=by simp at tB;omega
   clear hf E;go_wp2;refine leaves_cons (f:=44) (args:=#[.pointer (some ⟨w.heap.size+1,0,none⟩)]) (by simp) (by simp[go_sem]) ?_;refine(QjZ ⟨w.heap.size+1,0,none⟩ ⟨y,0,none⟩ .nilIface w4 (K.out.cell 0 rfl) (K.out.fz 0)).mono ?_;rintro e u' w5 ⟨rfl,rfl,rfl⟩;have U:=Hk (H.out.other (k':=w.heap.size+1) 0 (.iface 100 (.pointer (some ⟨y,0,none⟩))) (by omega));have Y3:=Hk (K.out.set 0 (.iface 100 (.pointer (some ⟨y,0,none⟩))));have z0:=U.out.cell 0 rfl;have z1:=U.out.cell 1 rfl;have z2:=U.out.cell 2 rfl;have z3:=Y3.out.cell 0 rfl;have ad:(⟨w.heap.size+1,0,none⟩:Addr)≠⟨y,0,none⟩:=by intro e;injection e with e;omega
   have Z:(⟨w.heap.size+1,0,none⟩:Addr)≠⟨y,1,none⟩:=by intro e;injection e with e;omega
   refine⟨.tuple #[.agg #[.slice none 0 0,.slice none 0 0,.slice none 0 0],.iface 100 (.pointer (some ⟨y,0,none⟩))],by simp[results,Tryz.results17,go_sem,z0,z1,z2,z3],Or.inr ⟨er,y,HP.out,rfl,(World.cell?_setCell_other _ _ _ _ ad).trans t0,(World.cell?_setCell_other _ _ _ _ Z).trans t1,by omega,by rw[Qac];exact tl⟩,B4.out.setCell (by show w.heap.size<=w.heap.size+1;omega) _⟩
 ·obtain⟨y,rfl,t0,t1,tB,tl⟩:=N;have HP:=Hk (show parseF l=.error er by rw[parseF,J];rfl);have X2:=Hk (X1.out.below D);have O:=Hk (Y1.out.below D);have B2:=Hk (bel_then I.out D);have tB':w.heap.size+2<=y:=by simpa using tB
  clear J D X1 Y1 I;go_wp2;refine leaves_cons (f:=44) (args:=#[.pointer (some ⟨w.heap.size+1,0,none⟩)]) (by simp) (by simp[go_sem]) ?_;refine(QjZ ⟨w.heap.size+1,0,none⟩ ⟨y,0,none⟩ .nilIface w2 (O.out.cell 0 rfl) (O.out.fz 0)).mono ?_;rintro e u' w3 ⟨rfl,rfl,rfl⟩;have U:=Hk (X2.out.other (k':=w.heap.size+1) 0 (.iface 100 (.pointer (some ⟨y,0,none⟩))) (by omega));have Y3:=Hk (O.out.set 0 (.iface 100 (.pointer (some ⟨y,0,none⟩))));have z0:=U.out.cell 0 rfl;have z1:=U.out.cell 1 rfl;have z2:=U.out.cell 2 rfl;have z3:=Y3.out.cell 0 rfl;have ad:(⟨w.heap.size+1,0,none⟩:Addr)≠⟨y,0,none⟩:=by intro e;injection e with e;omega
  have Z:(⟨w.heap.size+1,0,none⟩:Addr)≠⟨y,1,none⟩:=by intro e;injection e with e;omega
  refine⟨.tuple #[.agg #[.slice none 0 0,.slice none 0 0,.slice none 0 0],.iface 100 (.pointer (some ⟨y,0,none⟩))],by simp[results,Tryz.results17,go_sem,z0,z1,z2,z3],Or.inr ⟨er,y,HP.out,rfl,(World.cell?_setCell_other _ _ _ _ ad).trans t0,(World.cell?_setCell_other _ _ _ _ Z).trans t1,by omega,by rw[Qac];exact tl⟩,B2.out.setCell (by show w.heap.size<=w.heap.size+1;omega) _⟩
def StrsR (w:World) (v:Value) (xs:List By):Prop:=(v=.slice none 0 0/\xs=[])\/∃b o c,v=.slice (some ⟨b,o,none⟩) xs.length c/\xs.length<=c/\b<w.heap.size/\∀(j:Nat) (h:j<xs.length),w.cell? ⟨b,o+j,none⟩=some (.string (ba xs[j]))
theorem StrsR.below {w w':World} {v:Value} {xs:List By} (h:StrsR w v xs) (D:Below w.heap.size w w'):StrsR w' v xs:=by
 rcases h with h|⟨b,o,c,E,F,y,H⟩
 ·exact Or.inl h
 ·exact Or.inr ⟨b,o,c,E,F,Nat.lt_of_lt_of_le y D.size,fun j hj=>(D.cell (p:=⟨b,o+j,none⟩) y).trans (H j hj)⟩
theorem StrsR.of {w:World} {B:Nat} {v:Value} {xs:List By} (h:QbK B xs v w):StrsR w v xs:=by
 have H:w.ownsRow B 9 1 v xs.length (Qcl xs):=h;obtain⟨-,⟨I,E⟩|⟨g,F,J,D,K,-,y,M,-,-⟩⟩:=(show w.ownsRow B 9 1 v xs.length (Qcl xs) from h)
 ·exact Or.inl ⟨by rw[I],List.eq_nil_of_length_eq_zero E⟩
 ·subst D;refine Or.inr ⟨g,0,F,rfl,y,(H.lt g rfl).2,fun j hj=>?_⟩;rw[Nat.zero_add,H.cellAt j (by omega)];simp[Qcl,hj]
def Qqh (a:Ag):Prop:=a.1.length<=1000/\a.2.2.2.length<=1000/\-9223372036854775808<=a.2.2.1/\a.2.2.1<=9223372036854775807
def ColsR (w:World) (v:Value) (xs:List (By×Int)):Prop:=(v=.slice none 0 0/\xs=[])\/∃b o c,v=.slice (some ⟨b,o,none⟩) xs.length c/\xs.length<=c/\b<w.heap.size/\∀(j:Nat) (h:j<xs.length),w.cell? ⟨b,o+j*2,none⟩=some (.string (ba xs[j].1))/\w.cell? ⟨b,o+j*2+1,none⟩=some (.int .i64 xs[j].2)
theorem ColsR.below {w w':World} {v:Value} {xs:List (By×Int)} (h:ColsR w v xs) (D:Below w.heap.size w w'):ColsR w' v xs:=by
 rcases h with h|⟨b,o,c,F,H,y,E⟩
 ·exact Or.inl h
 ·exact Or.inr ⟨b,o,c,F,H,Nat.lt_of_lt_of_le y D.size,fun j hj=>⟨(D.cell (p:=⟨b,o+j*2,none⟩) y).trans (E j hj).1,(D.cell (p:=⟨b,o+j*2+1,none⟩) y).trans (E j hj).2⟩⟩
theorem QmZ:∀(l:List (By×Int)) (j:Nat) (h:j<l.length),(Qlw l)[j*2]? =some (.string (ba l[j].1))/\(Qlw l)[j*2+1]? =some (.int .i64 l[j].2)
 |[],j,h=>absurd h (by simp)
 |a::r,0,h=>⟨rfl,rfl⟩
 |a::r,j+1,h=>by
  have y:=QmZ r j (by simpa using h);have e:Qlw (a::r)=.string (ba a.1)::.int .i64 a.2::Qlw r:=rfl;rw[e,show(j+1)*2=j*2+1+1 by omega,show j*2+1+1+1=(j*2+1)+1+1 by omega];simpa using y
theorem ColsR.of {w:World} {B:Nat} {v:Value} {xs:List (By×Int)} (h:Qey B xs v w):ColsR w v xs:=by
 have y:w.ownsRow B 64 2 v xs.length (Qlw xs):=h;obtain⟨-,⟨J,F⟩|⟨g,H,K,E,M,-,D,N,-,-⟩⟩:=(show w.ownsRow B 64 2 v xs.length (Qlw xs) from h)
 ·exact Or.inl ⟨by rw[J],List.eq_nil_of_length_eq_zero F⟩
 ·subst E;refine Or.inr ⟨g,0,H,rfl,D,(y.lt g rfl).2,fun j hj=>?_⟩;have I:=QmZ xs j hj;exact⟨by rw[Nat.zero_add,y.cellAt _ (by omega),I.1],by rw[Nat.zero_add,y.cellAt _ (by omega),I.2]⟩
def QpN (c:By×Int):Prop:=c.1.length<=900/\(c.2=1\/c.2=2)
def Qrr (j:FJob):Prop:=(j.code=2->∃n,j.cols=[n]/\j.op∈ariL)/\(j.code=7->∃a b,j.cols=[a,b])/\(j.code=8->∃a b,j.cols=[a,b]/\(j.op=wSum\/j.op=Qqg))/\((j.code=5\/j.code=7)->∃a b,j.ins=[a,b])/\(j.code≠5->j.code≠7->∃a,j.ins=[a])
structure JobOK (j:FJob):Prop where
 code:j.code=1\/j.code=2\/j.code=3\/j.code=4\/j.code=5\/j.code=6\/j.code=7\/j.code=8\/j.code=9
 il:j.ins.length<=1000
 cl:j.cols.length<=1000
 ol:j.outs.length<=1000
 is:∀x∈j.ins,x.length<=1000
 cs:∀x∈j.cols,x.length<=1000
 os:∀x∈j.outs,x.length<=1000
 l:Qqh j.left
 r:Qqh j.right
 op:j.op.length<=1000
 rt:0<=j.retry/\j.retry<=1000
 fm:Qrr j
def NM (ts:List Tk):Prop:=(∀t∈ts,t.1=1->(t.2.1.head?.map (·.toNat))≠some 45)/\ts.length<=900
theorem NM.tail {ts:List Tk} (h:NM ts):NM ts.tail:=⟨fun t ht=>h.1 t (List.mem_of_mem_tail ht),by have:=h.2;simp;omega⟩
theorem Qay {α β ε:Type} {p:Except ε α} {f:α->Except ε β} {r:β} (h:p.bind f=.ok r):∃a,p=.ok a/\f a=.ok r:=by
 cases p with
 |error e=>cases h
 |ok a=>exact⟨a,rfl,h⟩
theorem map_ok {α β ε:Type} {p:Except ε α} {f:α->β} {r:β} (h:p.map f=.ok r):∃a,p=.ok a/\f a=r:=by
 cases p with
 |error e=>cases h
 |ok a=>exact⟨a,rfl,by injection h⟩
theorem Qbz {ts:List Tk} {a:By×List Tk} (h:Qbe ts=.ok a) (y:NM ts):a.1.length<=10/\NM a.2:=by
 unfold Qbe at h;split at h
 ·cases h
 ·split at h
  ·cases h
  ·injection h with h;subst h;exact⟨by dsimp only;omega,y.tail⟩
theorem Qbg {x:By} {ts:List Tk} {a:Nat×List Tk} (h:QbD x ts=.ok a) (y:NM ts):NM a.2:=by
 unfold QbD at h;split at h
 ·injection h with h;subst h;exact y.tail
 ·cases h
theorem Qg9 {xs:List By} {ts:List Tk} {a:By×List Tk} (h:Qc1 xs ts=.ok a) (D:NM ts):a.1∈xs/\NM a.2:=by
 unfold Qc1 at h;split at h
 ·rename_i y
  injection h with h;subst h;exact⟨y,D.tail⟩
 ·cases h
theorem Qm0 {y:Int} {ts:List Tk} {a:Int×List Tk} (h:Qho y ts=.ok a) (D:NM ts):0<=a.1/\a.1<=y/\NM a.2:=by
 unfold Qho at h;split at h
 ·cases h
 ·rename_i E
  split at h
  ·cases h
  ·injection h with h;subst h;refine⟨QjP ?_,by omega,D.tail⟩
   cases ts with
   |nil=>simp[Qar]
   |cons t r=>exact D.1 t (by simp) (by simpa [kindT] using E)
theorem QqD {ts:List Tk} {a:By×List Tk} (h:QkU ts=.ok a) (y:NM ts):a.1.length<=1000/\NM a.2:=by
 unfold QkU at h;split at h
 ·cases h
 ·split at h
  ·cases h
  ·rename_i D
   injection h with h;subst h;refine⟨?_,y.tail⟩;have:=Qa4 (show Qao 2 0 (QdH (Qar ts))=true by simpa using D)
   dsimp only
   omega
theorem arg_ok {ts:List Tk} {a:Ag×List Tk} (h:Qe7 ts=.ok a) (D:NM ts):Qqh a.1/\NM a.2:=by
 unfold Qe7 at h;split at h
 ·obtain⟨x,y,rfl⟩:=map_ok h;have:=Qbz y D;exact⟨⟨by dsimp only;omega,by simp,by dsimp only;omega,by dsimp only;omega⟩,this.2⟩
 ·split at h
  ·obtain⟨x,y,rfl⟩:=map_ok h;have:=QqD y D;exact⟨⟨by simp,this.1,by dsimp only;omega,by dsimp only;omega⟩,this.2⟩
  ·split at h
   ·obtain⟨x,y,rfl⟩:=map_ok h;have:=Qm0 y D.tail;exact⟨⟨by simp,by simp,by dsimp only;omega,by dsimp only;omega⟩,this.2.2⟩
   ·obtain⟨x,y,rfl⟩:=map_ok h;have:=Qm0 y D;exact⟨⟨by simp,by simp,by dsimp only;omega,by dsimp only;omega⟩,this.2.2⟩
theorem more_ok:∀(g:Nat) (acc:List By) (ts:List Tk) (a:List By×List Tk),Qew g acc ts=.ok a->NM ts->(∀x∈acc,x.length<=10)->(∀x∈a.1,x.length<=10)/\a.1.length<=acc.length+g/\NM a.2
 |0,acc,ts,a,h,hn,ha=>by
  unfold Qew at h;injection h with h;subst h;exact⟨ha,by dsimp only;omega,hn⟩
 |g+1,acc,ts,a,h,hn,ha=>by
  unfold Qew at h;split at h
  ·obtain⟨x,H,h⟩:=Qay h;have F:=Qbz H hn.tail;have E:=more_ok g _ _ a h F.2 (by
    intro y D;rcases List.mem_append.1 D with D|D
    ·exact ha y D
    ·rw[List.mem_singleton.1 D];exact F.1)
   refine⟨E.1,?_,E.2.2⟩;have:=E.2.1;simp at this;omega
  ·injection h with h;subst h;exact⟨ha,by dsimp only;omega,hn⟩
theorem Qj1 {ts:List Tk} {a:List By×List Tk} (h:Qcq ts=.ok a) (I:NM ts):(∀x∈a.1,x.length<=10)/\a.1.length<=1000/\NM a.2:=by
 obtain⟨x,H,h⟩:=Qay h;have E:=Qbz H I;have D:=more_ok _ _ _ a h E.2 (by intro y F;rw[List.mem_singleton.1 F];exact E.1);refine⟨D.1,?_,D.2.2⟩;have:=D.2.1;have:=E.2.2;simp at*;omega
theorem Qid {ts:List Tk} {a:(By×Int)×List Tk} (h:Qbf ts=.ok a) (E:NM ts):(a.1.1.length<=10/\(a.1.2=1\/a.1.2=2))/\NM a.2:=by
 obtain⟨x,D,h⟩:=Qay h;have y:=Qbz D E;split at h
 ·injection h with h;subst h;exact⟨⟨y.1,Or.inl rfl⟩,y.2.tail⟩
 ·split at h
  ·injection h with h;subst h;exact⟨⟨y.1,Or.inr rfl⟩,y.2.tail⟩
  ·cases h
theorem Qoz {ts:List Tk} {a:Int×List Tk} (h:QfS ts=.ok a) (y:NM ts):0<=a.1/\a.1<=5/\NM a.2:=by
 unfold QfS at h;split at h
 ·exact Qm0 h y.tail
 ·injection h with h;subst h;exact⟨by dsimp only;omega,by dsimp only;omega,y⟩
def Qrs (a:FIn):Prop:=a.name.length<=10/\a.cols.length<=1000/\∀x∈a.cols,QpN x
def QpO (a:FOut):Prop:=a.name.length<=10/\a.from_.length<=10
theorem cols_ok:∀(g:Nat) (acc:List (By×Int)) (ts:List Tk) (a:List (By×Int)×List Tk),QfR g acc ts=.ok a->NM ts->(∀x∈acc,QpN x)->(∀x∈a.1,QpN x)/\a.1.length<=acc.length+g/\NM a.2
 |0,acc,ts,a,h,hn,ha=>by
  unfold QfR at h;injection h with h;subst h;exact⟨ha,by dsimp only;omega,hn⟩
 |g+1,acc,ts,a,h,hn,ha=>by
  unfold QfR at h;split at h
  ·obtain⟨x,H,h⟩:=Qay h;have E:=Qid H hn.tail;have F:=cols_ok g _ _ a h E.2 (by
    intro y D;rcases List.mem_append.1 D with D|D
    ·exact ha y D
    ·rw[List.mem_singleton.1 D];exact⟨by have:=E.1.1;omega,E.1.2⟩)
   refine⟨F.1,?_,F.2.2⟩;have:=F.2.1;simp at this;omega
  ·injection h with h;subst h;exact⟨ha,by dsimp only;omega,hn⟩
theorem QoA {ts:List Tk} {a:FIn×List Tk} (h:Qc2 ts=.ok a) (U:NM ts):Qrs a.1/\NM a.2:=by
 obtain⟨x1,N,h⟩:=Qay h;have k1:=Qbg N U;obtain⟨x2,I,h⟩:=Qay h;have k2:=Qbz I k1;obtain⟨x3,O,h⟩:=Qay h;have H:=Qbg O k2.2;obtain⟨Z,K,h⟩:=Qay h;have D:=Qid K H;obtain⟨V,h5,h⟩:=Qay h;have E:=cols_ok _ _ _ V h5 D.2 (by intro y J;rw[List.mem_singleton.1 J];exact⟨by have:=D.1.1;omega,D.1.2⟩);obtain⟨x6,F,h⟩:=Qay h;have M:=Qbg F E.2.2;injection h with h;subst h;refine⟨⟨k2.1,?_,E.1⟩,M⟩;have:=E.2.1;have:=D.2.2;simp at*;omega
theorem QpP {ts:List Tk} {a:Int×List Tk} (h:Qci ts=.ok a) (y:NM ts):(a.1=1\/a.1=2\/a.1=3\/a.1=4\/a.1=5\/a.1=6\/a.1=7\/a.1=8\/a.1=9)/\NM a.2:=by
 refine⟨QgG (ts':=a.2) (by rw[h]),?_⟩;unfold Qci at h;split at h
 ·injection h with h;subst h;exact y.tail
 ·cases h
theorem Qm1 {xs:List By} {x:By} (D:∀y∈xs,y.length<=1000) (h:x∈xs):x.length<=1000:=D x h
theorem Qcv:Qqh Qlv:=by unfold Qqh Qlv;decide
theorem QeB {a:By} (h:a.length<=10):∀x∈[a],x.length<=1000:=by intro x y;rw[List.mem_singleton.1 y];omega
theorem Qha {a b:By} (h:a.length<=10) (D:b.length<=10):∀x∈[a,b],x.length<=1000:=by intro x y;simp at y;rcases y with rfl|rfl<;>omega
theorem Qja:∀x∈([]:List By),x.length<=1000:=by simp
theorem QpQ {a:By} (h:a.length<=10):Qqh (a,0,0,[]):=⟨by dsimp only;omega,by simp,by dsimp only;omega,by dsimp only;omega⟩
theorem QpR {at_:Nat} {outs:List By} {retry:Int} {ts:List Tk} {a:FJob×List Tk} (h:Qca at_ outs retry ts=.ok a) (hn:NM ts) (K:∀x∈outs,x.length<=1000) (D:outs.length<=1000) (M:0<=retry/\retry<=1000):JobOK a.1/\NM a.2:=by
 obtain⟨c,h1,h⟩:=Qay h;have k1:=QpP h1 hn;obtain⟨i,h2,h⟩:=Qay h;have k2:=Qbz h2 k1.2;split at h
 ·obtain⟨V,I,h⟩:=Qay h;have E:=Qbg I k2.2;obtain⟨O,F,h⟩:=Qay h;have y:=Qbz F E;obtain⟨x5,h5,h⟩:=Qay h;have J:=Qg9 h5 y.2;obtain⟨x6,N,h⟩:=Qay h;have H:=arg_ok N J.2;injection h with h;subst h;exact⟨⟨k1.1,by simp,by simp,D,QeB k2.1,Qja,K,QpQ y.1,H.1,Qm1 (by decide) J.1,M,by refine⟨fun q=>?_,fun q=>?_,fun q=>?_,fun q=>?_,fun q q2=>?_⟩<;>first|(exfalso;dsimp only at*;omega)|exact⟨_,rfl⟩|exact⟨_,_,rfl⟩|exact⟨_,rfl,by assumption⟩|exact⟨_,_,rfl,by assumption⟩⟩,H.2⟩
 ·split at h
  ·obtain⟨V,I,h⟩:=Qay h;have E:=Qbg I k2.2;obtain⟨O,F,h⟩:=Qay h;have y:=Qbz F E;obtain⟨x5,h5,h⟩:=Qay h;have J:=Qbg h5 y.2;obtain⟨x6,N,h⟩:=Qay h;have H:=arg_ok N J;obtain⟨x7,h7,h⟩:=Qay h;have Z:=Qg9 h7 H.2;have ak:=Z.1;obtain⟨x8,h8,h⟩:=Qay h;have U:=arg_ok h8 Z.2;injection h with h;subst h;exact⟨⟨k1.1,by simp,by simp,D,QeB k2.1,QeB y.1,K,H.1,U.1,Qm1 (by decide) Z.1,M,by refine⟨fun q=>?_,fun q=>?_,fun q=>?_,fun q=>?_,fun q q2=>?_⟩<;>first|(exfalso;dsimp only at*;omega)|exact⟨_,rfl⟩|exact⟨_,_,rfl⟩|exact⟨_,rfl,by assumption⟩|exact⟨_,_,rfl,by assumption⟩⟩,U.2⟩
  ·split at h
   ·obtain⟨V,I,h⟩:=Qay h;have E:=Qbg I k2.2;obtain⟨O,F,h⟩:=Qay h;have y:=Qj1 F E;injection h with h;subst h;exact⟨⟨k1.1,by simp,y.2.1,D,QeB k2.1,fun x hx=>by have:=y.1 x hx;omega,K,Qcv,Qcv,by simp,M,by refine⟨fun q=>?_,fun q=>?_,fun q=>?_,fun q=>?_,fun q q2=>?_⟩<;>first|(exfalso;dsimp only at*;omega)|exact⟨_,rfl⟩|exact⟨_,_,rfl⟩|exact⟨_,rfl,by assumption⟩|exact⟨_,_,rfl,by assumption⟩⟩,y.2.2⟩
   ·split at h
    ·obtain⟨V,I,h⟩:=Qay h;have E:=Qbg I k2.2;obtain⟨O,F,h⟩:=Qay h;have y:=Qbz F E;injection h with h;subst h;exact⟨⟨k1.1,by simp,by simp,D,Qha k2.1 y.1,Qja,K,Qcv,Qcv,by simp,M,by refine⟨fun q=>?_,fun q=>?_,fun q=>?_,fun q=>?_,fun q q2=>?_⟩<;>first|(exfalso;dsimp only at*;omega)|exact⟨_,rfl⟩|exact⟨_,_,rfl⟩|exact⟨_,rfl,by assumption⟩|exact⟨_,_,rfl,by assumption⟩⟩,y.2⟩
    ·split at h
     ·obtain⟨V,I,h⟩:=Qay h;have E:=Qbg I k2.2;obtain⟨O,F,h⟩:=Qay h;have y:=Qbz F E;obtain⟨x5,h5,h⟩:=Qay h;have J:=Qbg h5 y.2;obtain⟨x6,N,h⟩:=Qay h;have H:=Qbz N J;obtain⟨x7,h7,h⟩:=Qay h;have Z:=Qbg h7 H.2;obtain⟨x8,h8,h⟩:=Qay h;have U:=Qbz h8 Z;injection h with h;subst h;exact⟨⟨k1.1,by simp,by simp,D,Qha k2.1 H.1,Qha y.1 U.1,K,Qcv,Qcv,by simp,M,by refine⟨fun q=>?_,fun q=>?_,fun q=>?_,fun q=>?_,fun q q2=>?_⟩<;>first|(exfalso;dsimp only at*;omega)|exact⟨_,rfl⟩|exact⟨_,_,rfl⟩|exact⟨_,rfl,by assumption⟩|exact⟨_,_,rfl,by assumption⟩⟩,U.2⟩
     ·split at h
      ·obtain⟨V,I,h⟩:=Qay h;have E:=Qbg I k2.2;obtain⟨O,F,h⟩:=Qay h;have y:=Qbz F E;obtain⟨x5,h5,h⟩:=Qay h;have J:=Qg9 h5 y.2;have aj:x5.1=wSum\/x5.1=Qqg:=by simpa using J.1
       obtain⟨x6,N,h⟩:=Qay h;have H:=Qbz N J.2;injection h with h;subst h;exact⟨⟨k1.1,by simp,by simp,D,QeB k2.1,Qha y.1 H.1,K,Qcv,Qcv,Qm1 (by decide) J.1,M,by refine⟨fun q=>?_,fun q=>?_,fun q=>?_,fun q=>?_,fun q q2=>?_⟩<;>first|(exfalso;dsimp only at*;omega)|exact⟨_,rfl⟩|exact⟨_,_,rfl⟩|exact⟨_,rfl,by assumption⟩|exact⟨_,_,rfl,by assumption⟩⟩,H.2⟩
      ·injection h with h;subst h;exact⟨⟨k1.1,by simp,by simp,D,QeB k2.1,Qja,K,Qcv,Qcv,by simp,M,by refine⟨fun q=>?_,fun q=>?_,fun q=>?_,fun q=>?_,fun q q2=>?_⟩<;>first|(exfalso;dsimp only at*;omega)|exact⟨_,rfl⟩|exact⟨_,_,rfl⟩|exact⟨_,rfl,by assumption⟩|exact⟨_,_,rfl,by assumption⟩⟩,k2.2⟩
theorem QqE {ts:List Tk} {a:FJob×List Tk} (h:QmA ts=.ok a) (N:NM ts):JobOK a.1/\NM a.2:=by
 obtain⟨V,K,h⟩:=Qay h;have k1:=Qbg K N;obtain⟨x2,F,h⟩:=Qay h;have k2:=Qj1 F k1;obtain⟨Z,M,h⟩:=Qay h;have y:=Qoz M k2.2.2;obtain⟨O,H,h⟩:=Qay h;have I:=Qbg H y.2.2;obtain⟨x5,h5,h⟩:=Qay h;have D:=QpR h5 I (fun x hx=>by have:=k2.1 x hx;omega) k2.2.1 ⟨y.1,by have:=y.2.1;omega⟩;obtain⟨U,E,h⟩:=Qay h;have J:=Qbg E D.2;injection h with h;subst h;exact⟨D.1,J⟩
theorem Qk3 {ts:List Tk} {a:FOut×List Tk} (h:Qbt ts=.ok a) (K:NM ts):QpO a.1/\NM a.2:=by
 obtain⟨N,H,h⟩:=Qay h;have k1:=Qbg H K;obtain⟨U,E,h⟩:=Qay h;have k2:=Qbz E k1;obtain⟨O,I,h⟩:=Qay h;have D:=Qbg I k2.2;obtain⟨M,F,h⟩:=Qay h;have y:=Qbz F D;obtain⟨V,h5,h⟩:=Qay h;have J:=Qbg h5 y.2;injection h with h;subst h;exact⟨⟨k2.1,y.1⟩,J⟩
theorem Qe9 {α:Type} {x:By} {p:List Tk->PE α} {Q:α->Prop} (E:∀ts a,p ts=.ok a->NM ts->Q a.1/\NM a.2):∀(g:Nat) (acc:List α) (ts:List Tk) (a:List α×List Tk),partsP x p g acc ts=.ok a->NM ts->(∀y∈acc,Q y)->acc.length<=16->(∀y∈a.1,Q y)/\a.1.length<=16/\NM a.2
 |0,acc,ts,a,h,hn,ha,hl=>by
  unfold partsP at h;injection h with h;subst h;exact⟨ha,hl,hn⟩
 |g+1,acc,ts,a,h,hn,ha,hl=>by
  unfold partsP at h;split at h
  ·split at h
   ·cases h
   ·rename_i I
    obtain⟨y,H,h⟩:=Qay h;have F:=E _ _ H hn;exact Qe9 E g _ _ a h F.2 (by
     intro z D;rcases List.mem_append.1 D with D|D
     ·exact ha z D
     ·rw[List.mem_singleton.1 D];exact F.1) (by simp;omega)
  ·injection h with h;subst h;exact⟨ha,hl,hn⟩
structure FlwOK (f:Flw):Prop where
 ins:∀a∈f.ins,Qrs a
 jobs:∀a∈f.jobs,JobOK a
 outs:∀a∈f.outs,QpO a
 il:f.ins.length<=16
 jl:f.jobs.length<=16
 ol:f.outs.length<=16
theorem QpS {ts:List Tk} {f:Flw} (h:Qc7 ts=.ok f) (y:NM ts):FlwOK f:=by
 obtain⟨H,F,h⟩:=Qay h;have k1:=Qe9 (Q:=Qrs) (fun ts a h y=>QoA h y) _ _ _ H F y (by simp) (by simp);obtain⟨K,E,h⟩:=Qay h;have k2:=Qe9 (Q:=JobOK) (fun ts a h y=>QqE h y) _ _ _ K E k1.2.2 (by simp) (by simp);obtain⟨J,I,h⟩:=Qay h;have D:=Qe9 (Q:=QpO) (fun ts a h y=>Qk3 h y) _ _ _ J I k2.2.2 (by simp) (by simp);unfold QeZ at h;split at h
 ·cases h
 ·split at h
  ·cases h
  ·split at h
   ·cases h
   ·injection h with h;subst h;exact⟨k1.1,k2.1,D.1,k1.2.1,k2.2.1,D.2.1⟩
theorem parse_ok {l:By} {f:Flw} (E:l.length<=1000000) (h:parseF l=.ok f):FlwOK f:=by
 obtain⟨ts,y,h⟩:=Qay h;have D:=QfX E y;refine QpS h ⟨fun t ht=>(D.small t ht).2.2.2.2,?_⟩;unfold Qb2 at y
 cases hk:QfQ (l.length+1) l 0 0 with
 |error e=>rw[hk] at y;cases y
 |ok us=>
  rw[hk] at y;simp only[Except.ok.injEq] at y;subst y;obtain⟨F,-⟩:=QfW _ l 0 0 us l.length hk (by omega) (by omega);simp;omega
def RowR (w:World) (v:Value) (n z:Nat) (P:Nat->World->Nat->Nat->Prop):Prop:=(v=.slice none 0 0/\n=0)\/∃b c,v=.slice (some ⟨b,0,none⟩) n c/\n<=c/\b<w.heap.size/\∀j,j<n->P j w b (j*z)
def InAt (l:List FIn) (j:Nat) (w:World) (b o:Nat):Prop:=∃(a:FIn) (v:Value),l[j]? =some a/\w.cell? ⟨b,o,none⟩=some (.int .i64 (a.at_:Nat))/\w.cell? ⟨b,o+1,none⟩=some (.string (ba a.name))/\w.cell? ⟨b,o+2,none⟩=some v/\ColsR w v a.cols
def OutAt (l:List FOut) (j:Nat) (w:World) (b o:Nat):Prop:=∃(a:FOut),l[j]? =some a/\w.cell? ⟨b,o,none⟩=some (.int .i64 (a.at_:Nat))/\w.cell? ⟨b,o+1,none⟩=some (.string (ba a.name))/\w.cell? ⟨b,o+2,none⟩=some (.string (ba a.from_))
def JobCellsAt (l:List FJob) (j:Nat) (w:World) (b o:Nat):Prop:=∃(a:FJob) (vo vi vc:Value),l[j]? =some a/\(∀i u,(jobV a vo vi vc)[i]? =some u->w.cell? ⟨b,o+i,none⟩=some u)/\StrsR w vo a.outs/\StrsR w vi a.ins/\StrsR w vc a.cols
theorem InAt.below {l:List FIn} {j b o:Nat} {w w':World} (h:InAt l j w b o) (y:Below w.heap.size w w') (D:b<w.heap.size):InAt l j w' b o:=by
 obtain⟨a,v,H,E,I,F,h5⟩:=h;exact⟨a,v,H,cK y D E,cK y D I,cK y D F,h5.below y⟩
theorem OutAt.below {l:List FOut} {j b o:Nat} {w w':World} (h:OutAt l j w b o) (D:Below w.heap.size w w') (y:b<w.heap.size):OutAt l j w' b o:=by
 obtain⟨a,H,E,I,F⟩:=h;exact⟨a,H,cK D y E,cK D y I,cK D y F⟩
theorem JobCellsAt.below {l:List FJob} {j b o:Nat} {w w':World} (h:JobCellsAt l j w b o) (y:Below w.heap.size w w') (E:b<w.heap.size):JobCellsAt l j w' b o:=by
 obtain⟨a,K,J,D,I,F,M,H,h5⟩:=h;exact⟨a,K,J,D,I,fun i u hu=>(y.cell (p:=⟨b,o+i,none⟩) E).trans (F i u hu),M.below y,H.below y,h5.below y⟩
theorem RowR.below {w w':World} {v:Value} {n z:Nat} {P:Nat->World->Nat->Nat->Prop} (h:RowR w v n z P) (F:Below w.heap.size w w') (E:∀j b o,P j w b o->b<w.heap.size->P j w' b o):RowR w' v n z P:=by
 rcases h with h|⟨b,c,D,H,y,I⟩
 ·exact Or.inl h
 ·exact Or.inr ⟨b,c,D,H,Nat.lt_of_lt_of_le y F.size,fun j hj=>E _ _ _ (I j hj) y⟩
theorem RowR.of {w:World} {B:Nat} {e:TypeId} {z n:Nat} {v:Value} {xs:List Value} {P:Nat->World->Nat->Nat->Prop} (h:w.ownsRow B e z v n xs) (J:∀b,(∀i u,i<n*z->xs[i]? =some u->w.cell? ⟨b,i,none⟩=some u)->∀j,j<n->P j w b (j*z)):RowR w v n z P:=by
 have H:=h;obtain⟨-,⟨I,E⟩|⟨g,F,K,D,M,-,y,N,-,-⟩⟩:=h
 ·exact Or.inl ⟨by rw[I],E⟩
 ·subst D;refine Or.inr ⟨g,F,rfl,y,(H.lt g rfl).2,J g fun i u hi hu=>?_⟩;rw[H.cellAt i hi,hu]
theorem Qm2:∀{w:World} {B:Nat} {l:List FIn} {y:List Value},HI w B l y->∀j,j<l.length->∃a v,l[j]? =some a/\Qey B a.cols v w/\(QkW l y)[j*3]? =some (.int .i64 (a.at_:Nat))/\(QkW l y)[j*3+1]? =some (.string (ba a.name))/\(QkW l y)[j*3+2]? =some v
 |w,B,[],[],_,j,hj=>absurd hj (by simp)
 |w,B,a::l,v::y,h,0,hj=>⟨a,v,rfl,h.1,rfl,rfl,rfl⟩
 |w,B,a::l,v::y,h,j+1,hj=>by
  obtain⟨b,u,F,D,H,E,h5⟩:=Qm2 h.2 j (by simpa using hj);refine⟨b,u,by simpa using F,D,?_⟩;have e:QkW (a::l) (v::y)=.int .i64 (a.at_:Nat)::.string (ba a.name)::v::QkW l y:=rfl;rw[e,show(j+1)*3=j*3+1+1+1 by omega,show j*3+1+1+1+1=(j*3+1)+1+1+1 by omega,show j*3+1+1+1+2=(j*3+2)+1+1+1 by omega];simpa using ⟨H,E,h5⟩
theorem Qg3.row {w:World} {B:Nat} {l:List FIn} {v:Value} (h:Qg3 w B l v):RowR w v l.length 3 (InAt l):=by
 obtain⟨I,E,D⟩:=h;refine RowR.of E fun b hb j hj=>?_
 obtain⟨a,u,k1,k2,y,H,F⟩:=Qm2 D j hj;exact⟨a,u,k1,hb _ _ (by omega) y,hb _ _ (by omega) H,hb _ _ (by omega) F,ColsR.of k2⟩
theorem Qj2:∀(l:List FOut) (j:Nat),j<l.length->∃a,l[j]? =some a/\(Qe0 l)[j*3]? =some (.int .i64 (a.at_:Nat))/\(Qe0 l)[j*3+1]? =some (.string (ba a.name))/\(Qe0 l)[j*3+2]? =some (.string (ba a.from_))
 |[],j,hj=>absurd hj (by simp)
 |a::l,0,hj=>⟨a,rfl,rfl,rfl,rfl⟩
 |a::l,j+1,hj=>by
  obtain⟨b,h,D,y,h5⟩:=Qj2 l j (by simpa using hj);refine⟨b,by simpa using h,?_⟩;have e:Qe0 (a::l)=.int .i64 (a.at_:Nat)::.string (ba a.name)::.string (ba a.from_)::Qe0 l:=rfl;rw[e,show(j+1)*3=j*3+1+1+1 by omega,show j*3+1+1+1+1=(j*3+1)+1+1+1 by omega,show j*3+1+1+1+2=(j*3+2)+1+1+1 by omega];simpa using ⟨D,y,h5⟩
theorem QoB {w:World} {B:Nat} {l:List FOut} {v:Value} (h:w.ownsRow B 60 3 v l.length (Qe0 l)):RowR w v l.length 3 (OutAt l):=by
 refine RowR.of h fun b hb j hj=>?_
 obtain⟨a,k1,y,E,D⟩:=Qj2 l j hj;exact⟨a,k1,hb _ _ (by omega) y,hb _ _ (by omega) E,hb _ _ (by omega) D⟩
theorem Qj3:∀{w:World} {B:Nat} {l:List FJob} {y:List (Value×Value×Value)},HJ w B l y->∀j,j<l.length->∃(a:FJob) (v:Value×Value×Value),l[j]? =some a/\(QbK B a.outs v.1 w/\QbK B a.ins v.2.1 w/\QbK B a.cols v.2.2 w)/\∀i u,(jobV a v.1 v.2.1 v.2.2)[i]? =some u->(QdQ l y)[j*15+i]? =some u
 |w,B,[],[],_,j,hj=>absurd hj (by simp)
 |w,B,a::l,v::y,h,0,hj=>⟨a,v,rfl,h.1,fun i u hu=>by
  have H:i<15:=(List.getElem?_eq_some_iff.1 hu).1;rw[show QdQ (a::l) (v::y)=jobV a v.1 v.2.1 v.2.2++QdQ l y from rfl,show 0*15+i=i by omega,List.getElem?_append_left (by exact H)];exact hu⟩
 |w,B,a::l,v::y,h,j+1,hj=>by
  obtain⟨b,u,E,D,F⟩:=Qj3 h.2 j (by simpa using hj);refine⟨b,u,by simpa using E,D,fun i x hx=>?_⟩;rw[show QdQ (a::l) (v::y)=jobV a v.1 v.2.1 v.2.2++QdQ l y from rfl,List.getElem?_append_right (by show 15<=_;omega)];rw[show(j+1)*15+i-(jobV a v.1 v.2.1 v.2.2).length=j*15+i by show _-15=_;omega];exact F i x hx
theorem QgH.row {w:World} {B:Nat} {l:List FJob} {v:Value} (h:QgH w B l v):RowR w v l.length 15 (JobCellsAt l):=by
 obtain⟨F,E,D⟩:=h;refine RowR.of E fun b hb j hj=>?_
 obtain⟨a,u,k1,k2,y⟩:=Qj3 D j hj;refine⟨a,u.1,u.2.1,u.2.2,k1,fun i x hx=>?_,StrsR.of k2.1,StrsR.of k2.2.1,StrsR.of k2.2.2⟩;have H:i<15:=(List.getElem?_eq_some_iff.1 hx).1;exact hb _ _ (by omega) (y i x hx)
structure FlowRd (w:World) (f:Flw) (vi vj vo:Value):Prop where
 ins:RowR w vi f.ins.length 3 (InAt f.ins)
 jobs:RowR w vj f.jobs.length 15 (JobCellsAt f.jobs)
 outs:RowR w vo f.outs.length 3 (OutAt f.outs)
theorem FlowRd.below {w w':World} {f:Flw} {E D F:Value} (h:FlowRd w f E D F) (y:Below w.heap.size w w'):FlowRd w' f E D F:=
 ⟨h.ins.below y fun _ _ _ hh hl=>hh.below y hl,h.jobs.below y fun _ _ _ hh hl=>hh.below y hl,h.outs.below y fun _ _ _ hh hl=>hh.below y hl⟩
theorem FlowRd.of {w:World} {B:Nat} {f:Flw} {D y E:Value} (h:FlowO w B f.ins D f.jobs y f.outs E):FlowRd w f D y E:=⟨h.ins.row,h.jobs.row,QoB h.row⟩
end Go.Proofs.YtjlgejennghhlaaGreatDoor.Fw
