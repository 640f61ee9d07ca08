import Derived.Defers
import Derived.Recover
import Derived.Test.YtjlgejennghhlaaGreatDoorQ01
import Derived.Test.YtjlgejennghhlaaGreatDoorQ10
import Derived.Test.YtjlgejennghhlaaGreatDoorQ37
import Derived.Test.YtjlgejennghhlaaGreatDoorQ38
set_option linter.unusedSimpArgs false
set_option linter.unusedVariables false
set_option linter.unusedSectionVars false
set_option maxRecDepth 1000000
set_option maxHeartbeats 16000000
namespace Go.Proofs.YtjlgejennghhlaaGreatDoor.Fw
open Go.RowKit
theorem Tryz.infoTok:(Tryz.prog.info? 143).map (fun i=>(i.zero,i.size,i.bytes))=some (some (.agg #[.int .i64 0,.string ⟨#[]⟩,.int .i64 0]),3,32):=by kernel_rfl
def tkV (ts:List Tk):List Value:=ts.flatMap fun t=>[.int .i64 (t.1:Nat),.string (ba t.2.1),.int .i64 (t.2.2:Nat)]
theorem QmD (ts:List Tk) (t:Tk):tkV (ts++[t])=tkV ts++[.int .i64 (t.1:Nat),.string (ba t.2.1),.int .i64 (t.2.2:Nat)]:=by simp[tkV]
def QrS (r:Except (Int×Nat) (List Tk)) (e:Ending) (w':World) (B:Nat):Prop:=
 (∃ts v,r=.ok ts/\e=.returned v/\w'.ownsRow B 143 3 v ts.length (tkV ts))\/(∃er,r=.error er/\Thr e w' B er)
theorem Qoo (r:By) (n:Nat) (h:r.findIdx? (·==39)=some n):n<r.length:=(List.findIdx?_eq_some_iff_getElem.1 h).1
theorem Qh5 {r:By} {k n:Nat} (h:QaZ r=some (k,n)):1<=n/\n<=r.length/\k<=3:=by
 cases r with
 |nil=>simp[QaZ] at h
 |cons c r=>
  simp only[QaZ] at h;split at h
  ·rename_i H
   simp only[Option.some.injEq,Prod.mk.injEq] at h;obtain⟨rfl,rfl⟩:=h;refine⟨?_,QdM _ _,by omega⟩;unfold runL;rw[List.takeWhile_cons_of_pos (by simp[lowdigB,H])];simp
  ·split at h
   ·rename_i D
    simp only[Option.some.injEq,Prod.mk.injEq] at h;obtain⟨rfl,rfl⟩:=h;refine⟨?_,QdM _ _,by omega⟩;unfold runL;rw[List.takeWhile_cons_of_pos D];simp
   ·split at h
    ·cases hf:r.findIdx? (·==39) with
     |none=>rw[hf] at h;simp at h
     |some m=>
      rw[hf] at h;simp only[Option.map_some,Option.some.injEq,Prod.mk.injEq] at h;obtain⟨rfl,rfl⟩:=h;have:=Qoo r m hf;simp;omega
    ·cases hf:QaD.find? fun m=>m.isPrefixOf (c::r) with
     |none=>rw[hf] at h;simp at h
     |some m=>
      rw[hf] at h;simp only[Option.map_some,Option.some.injEq,Prod.mk.injEq] at h;obtain⟨rfl,rfl⟩:=h;have y:=List.find?_some hf;have F:=List.mem_of_find?_eq_some hf;have I:∀x∈QaD,1<=x.length:=by decide
      rw[List.isPrefixOf_iff_prefix] at y;exact⟨I m F,y.length_le,by omega⟩
theorem Qed {f:Nat} {l:By} {p n:Nat}:QfN (f+1) l p n=(if l.drop (runL blankB l)=[] then .ok []
 else match QaZ (l.drop (runL blankB l)) with
  |none=>.error (3,p+runL blankB l)
  |some (k,len)=>
   if n=400 then .error (4,p+runL blankB l)
   else match QfN f ((l.drop (runL blankB l)).drop len) (p+runL blankB l+len) (n+1) with
    |.error e=>.error e
    |.ok ts=>.ok ((k,(l.drop (runL blankB l)).take len,p+runL blankB l)::ts)):=rfl
def Qev (l:By) (acc:List Tk) (p f:Nat):Except (Int×Nat) (List Tk):=match QfN f (l.drop p) p acc.length with |.error e=>.error e|.ok ts=>.ok (acc++ts++[(4,[],l.length)])
theorem QkM (l:By):QbZ l=Qev l [] 0 (l.length+1):=by
 unfold QbZ Qev;simp only[List.drop_zero,List.length_nil]
 cases QfN (l.length+1) l 0 0<;>rfl
theorem Qop {l:By} {acc:List Tk} {p f:Nat} (h:l.length<=p+runL blankB (l.drop p)):Qev l acc p (f+1)=.ok (acc++[(4,[],l.length)]):=by
 unfold Qev;rw[Qed,if_pos (by rw[List.drop_drop,List.drop_eq_nil_iff];omega)];simp
theorem QmE {l:By} {acc:List Tk} {p f:Nat} (h:p+runL blankB (l.drop p)<l.length) (y:QaZ (l.drop (p+runL blankB (l.drop p)))=none):Qev l acc p (f+1)=.error (3,p+runL blankB (l.drop p)):=by
 unfold Qev;rw[Qed,if_neg (by rw[List.drop_drop,List.drop_eq_nil_iff];omega),List.drop_drop,y]
theorem QmF {l:By} {acc:List Tk} {p f k n:Nat} (h:p+runL blankB (l.drop p)<l.length) (D:QaZ (l.drop (p+runL blankB (l.drop p)))=some (k,n)) (y:acc.length=400):Qev l acc p (f+1)=.error (4,p+runL blankB (l.drop p)):=by
 unfold Qev;rw[Qed,if_neg (by rw[List.drop_drop,List.drop_eq_nil_iff];omega),List.drop_drop,D];simp[y]
theorem QmG {l:By} {acc:List Tk} {p f k n:Nat} (h:p+runL blankB (l.drop p)<l.length) (D:QaZ (l.drop (p+runL blankB (l.drop p)))=some (k,n)) (y:acc.length≠400):Qev l acc p (f+1)=Qev l (acc++[(k,(l.drop (p+runL blankB (l.drop p))).take n,p+runL blankB (l.drop p))]) (p+runL blankB (l.drop p)+n) f:=by
 unfold Qev;rw[Qed,if_neg (by rw[List.drop_drop,List.drop_eq_nil_iff];omega),List.drop_drop,D];simp only[y,if_false,List.drop_drop,List.length_append,List.length_cons,List.length_nil,Nat.zero_add]
 cases QfN f (l.drop (p+runL blankB (l.drop p)+n)) (p+runL blankB (l.drop p)+n) (acc.length+1) with
 |error e=>rfl
 |ok ts=>simp
theorem Qh6 (w:World) (l:List Value) (t:TypeId) (H:Nat) (D:w.heap.size=H):∀j u,l[j]? =some u->(w.alloc (.cells l.toArray t)).cell? ((⟨H,0,none⟩:Addr).add j)=some u:=by
 intro j u h;have y:=Box.new w l t H D.symm;have:=y.cell j h;rw[show((⟨H,0,none⟩:Addr).add j)=⟨H,j,none⟩ by simp only[Addr.add,Nat.zero_add];split<;>simp_all];exact this
theorem QkN {w w':World} {k:Nat} {D:List Value} {row:Option Nat} (h:Box w k D) (F:w.grownBy w' row) (y:row≠some k):Box w' k D:=h.block (F.block k h.lt (fun e=>y e.symm))
theorem owns_below {w w':World} {base:Nat} {e:TypeId} {size:Nat} {v:Value} {n:Nat} {xs:List Value} (h:w.ownsRow base e size v n xs) (y:Below w.heap.size w w'):w'.ownsRow base e size v n xs:=
 h.kept (grown_below y none) (by cases v.ownBlock<;>simp)
theorem QkO (l:By) (w:World) (hl:l.length<=1000000) (hE:FEnv w):
 Calls Tryz.prog 45 #[.string (ba l)] w fun e w'=>QrS (QbZ l) e w' w.heap.size/\Below w.heap.size w w':=by
 obtain⟨i0,hi,ai,al,ak⟩:=info_parts Tryz.infoTok;have a1:(ba l).size=l.length:=Qdi l;have HE:=Hk hE;have HL:=Hk hl;clear hE;go_enter Tryz.func45,Tryz.ntmps45;go_wp2_with (go_at_call 76;fail);refine(Qh3 l w HL.out).mono ?_;rintro e w1 ⟨rfl,af⟩;have hw1':=af.symm;clear af;subst hw1';have aI:=QdM blankB l;have ay:=Hk (QkM l);go_wp2_with fail
 go_loopg [4,5] l.length (fun g vl vi wr=>∃(acc:List Tk) (p q n:Nat),vi=.int .i64 (q:Nat)/\q<=l.length/\p<=q/\l.length-p<=g/\n<=400/\wr.ownsRow w.heap.size 143 3 vl n (tkV acc)/\Aside (n=acc.length/\q=p+runL blankB (l.drop p)/\Below w.heap.size w wr/\∃f,l.length-p<=f/\QbZ l=Qev l acc p (f+1)))
 case atStart=>exact⟨[],0,runL blankB l,0,rfl,aI,by omega,by omega,by omega,World.ownsRow_nil _ _ _ _,rfl,by simp,Below.refl _ _,l.length,by omega,ay.out⟩
 case round=>
  obtain⟨acc,p,q,n,rfl,hq,a8,hg,hn,K,h⟩:=hrel;obtain⟨la,lc,rfl⟩:=own_slice K;have HO:=Hk K;clear K;obtain⟨f,hf,ag⟩:=h.out.2.2.2;have M:=Hk ag;clear ag
  by_cases hlt:q<l.length
  ·have au:(q:Int)<(l.length:Int):=by omega
   have aN:=Hk (QmC l q wr hlt HL.out (HE.out.blocks h.out.2.2.1.size (fun g hg'=>h.out.2.2.1.block g (HE.out.size g hg'))));go_wp2_with (go_at_call 77;fail);refine aN.out.mono ?_;rintro e w2 ⟨⟨H,m,F,rfl⟩|⟨F,am⟩,J⟩
   ·obtain⟨bd,aB,a6⟩:=Qh5 F;have hm2':m<=l.length-q:=by simpa using aB
    have B2:=Hk (bel_then h.out.2.2.1 J);have O2:=Hk (owns_below HO.out J);have a2:=J.size;have aJ:=h.out.2.2.1.size;have N:((l.drop q).take m).length=m:=by simp;omega
    have O:=Hk h.out.2.1
    by_cases ha:n=400
    ·have aH:((n:Int)==400)=true:=by simp[ha]
     have HP:=Hk (show QbZ l=.error (4,q) by
      have Z:=QmF (f:=f) (acc:=acc) (p:=p) (l:=l) (k:=H) (n:=m) (by rw[<-O.out];exact hlt) (by rw[<-O.out];exact F) (by rw[<-h.out.1];exact ha);rw[M.out,Z,<-O.out])
     clear F ha J;generalize (l.drop q).take m=I at*;go_wp2_with (go_at_call 78;refine(wrong_any _ _ _).mono ?_;rintro e a5 ⟨rfl,rfl⟩);exact⟨rfl,Or.inr ⟨_,HP.out,QmB _ _ _ (by simp;omega) (by simp)⟩,bel_box (bel_box B2.out _) _⟩
    ·have aH:((n:Int)==400)=false:=by simp;omega
     have aj:=Hk (show QbZ l=Qev l (acc++[(H,(l.drop q).take m,q)]) (q+m) f by
      have Z:=QmG (f:=f) (acc:=acc) (p:=p) (l:=l) (k:=H) (n:=m) (by rw[<-O.out];exact hlt) (by rw[<-O.out];exact F) (by rw[<-h.out.1];exact ha);rw[M.out,Z,<-O.out])
     have aP:n+1<=400:=by omega
     have aM:=Hk N;obtain⟨I,ae⟩:∃x,(l.drop q).take m=x:=⟨_,rfl⟩;rw[ae] at aj N⊢;clear F ha J ae aM;have az:q+m<=l.length:=by omega
     have ah:(ba l).extract (q+m) l.length=ba (l.drop (q+m)):=Qmz l (q+m) az;have aF:=Hk ah;clear ah;go_wp2_with (at_builtin;refine wpList_append_own _ rfl _ _ 102 rfl w.heap.size 143 i0 (.agg #[.int .i64 0,.string ⟨#[]⟩,.int .i64 0]) 3 32 Tryz.underlying102 hi ai al ak rfl (by decide) _ _ _ rfl ((O2.out.alloc _).alloc _) ⟨w2.heap.size+1,0,none⟩ 1 1 [.int .i64 (H:Nat),.string (ba I),.int .i64 (q:Nat)] rfl rfl (Qh6 _ [.int .i64 (H:Nat),.string (ba I),.int .i64 (q:Nat)] _ _ (by simp)) (by simp[Value.oneCell']) ?c3 ?c4 ?c5 ?_)
     case c3=>unfold maxLen;omega
     case c4=>omega
     case c5=>simp;omega
     intro v' w5 D y _;have X5:=Hk (QkN ((Box.new w2 [.int .i64 (H:Nat),.string (ba I),.int .i64 (q:Nat)] 143 _ rfl).below (Qaa _ (.cells #[.int .i64 (H:Nat),.string (ba I),.int .i64 (q:Nat)] 143))) y (by intro e;have:=O2.out.lt _ e;omega));have B5:=Hk ((bel_box (bel_box B2.out (.cells #[.int .i64 (H:Nat),.string (ba I),.int .i64 (q:Nat)] 143)) (.cells #[.int .i64 (H:Nat),.string (ba I),.int .i64 (q:Nat)] 143)).grown y (by first|omega|(simp;omega)) (fun k hk=>(O2.out.lt k hk).1));have O5:=Hk (show w5.ownsRow w.heap.size 143 3 v' (n+1) (tkV (acc++[(H,I,q)])) by rw[QmD];exact D);have c1:=X5.out.cell 1 rfl;have a9:=X5.out.lt;have a3:=Hk N;have a0:(I.length:Int)=(m:Int):=by omega
     have bb:IntKind.i64.wrap ((q:Int)+(m:Int))=((q+m:Nat):Int):=by rw[IntKind.wrap_i64];omega
     have a7:((q+m:Nat):Int)<=(l.length:Int):=by omega
     clear D y N;go_wp2_with (go_at_call 76;fail);rw[aF.out];have V:(l.drop (q+m)).length=l.length-(q+m):=List.length_drop;refine(Qh3 (l.drop (q+m)) w5 (by rw[V];have:=HL.out;omega)).mono ?_;rintro e w6 ⟨rfl,ad⟩;have hw6':=ad.symm;clear ad;subst hw6';have ac:=QdM blankB (l.drop (q+m));rw[V] at ac;obtain⟨rn,U⟩:∃x,runL blankB (l.drop (q+m))=x:=⟨_,rfl⟩;have ax:=Hk U;rw[U] at ac⊢;have a4:IntKind.i64.wrap ((q:Int)+(m:Int)+(rn:Int))=(q:Int)+(m:Int)+(rn:Int):=by rw[IntKind.wrap_i64];omega
     obtain⟨f',aE⟩:∃f',f=f'+1:=⟨f-1,by omega⟩;subst aE;clear U V;go_wp2
     go_roundg (l.length-(q+m))
     case measure=>omega
     case rel=>exact⟨acc++[(H,I,q)],q+m,q+m+rn,n+1,by first|go_num|(congr 1),by omega,by omega,Nat.le_refl _,aP,O5.out,by simp[h.out.1],by rw[ax.out],B5.out,f',by omega,aj.out⟩
   ·obtain⟨b',rfl,t0,t1,tB,tl⟩:=am;have HP:=Hk (show QbZ l=.error (3,q) by
     have Z:=QmE (f:=f) (acc:=acc) (p:=p) (l:=l) (by rw[<-h.out.2.1];exact hlt) (by rw[<-h.out.2.1];exact F);rw[M.out,Z,<-h.out.2.1])
    go_wp2;exact⟨rfl,Or.inr ⟨_,HP.out,b',rfl,t0,t1,Nat.le_trans h.out.2.2.1.size tB,tl⟩,bel_then h.out.2.2.1 J⟩
  ·have au:¬((q:Int)<(l.length:Int)):=by omega
   have HP:=Hk (show QbZ l=.ok (acc++[(4,[],l.length)]) by rw[M.out];exact Qop (by rw[<-h.out.2.1];omega));have aJ:=h.out.2.2.1.size;go_wp2_with (at_builtin;refine wpList_append_own _ rfl _ _ 102 rfl w.heap.size 143 i0 (.agg #[.int .i64 0,.string ⟨#[]⟩,.int .i64 0]) 3 32 Tryz.underlying102 hi ai al ak rfl (by decide) _ _ _ rfl (HO.out.alloc _) ⟨wr.heap.size,0,none⟩ 1 1 [.int .i64 4,.string ⟨#[]⟩,.int .i64 (l.length:Nat)] rfl rfl (Qh6 _ [.int .i64 4,.string ⟨#[]⟩,.int .i64 (l.length:Nat)] _ _ (by simp)) (by simp[Value.oneCell']) ?c3 ?c4 ?c5 ?_)
   case c3=>unfold maxLen;omega
   case c4=>omega
   case c5=>first|omega|(simp;omega)
   intro v' w5 D y _;have aO:=Hk ((bel_box h.out.2.2.1 (.cells #[.int .i64 4,.string ⟨#[]⟩,.int .i64 (l.length:Nat)] 143)).grown y (by first|omega|(simp;omega)) (fun k hk=>(HO.out.lt k hk).1));have aA:=Hk (show w5.ownsRow w.heap.size 143 3 v' (acc++[(4,[],l.length)]).length (tkV (acc++[(4,[],l.length)])) by rw[QmD,List.length_append,<-h.out.1];exact D);clear D y;go_wp2;go_ret;exact⟨Or.inl ⟨_,_,HP.out,rfl,aA.out⟩,aO.out⟩
theorem QmH {r:By} {k n:Nat} (h:QaZ r=some (k,n)) (y:k=2):2<=n:=by
 subst y
 cases r with
 |nil=>simp[QaZ] at h
 |cons c r=>
  simp only[QaZ] at h;split at h
  ·simp at h
  ·split at h
   ·simp at h
   ·split at h
    ·cases hf:r.findIdx? (·==39) with
     |none=>rw[hf] at h;simp at h
     |some m=>rw[hf] at h;simp at h;omega
    ·cases hf:QaD.find? fun m=>m.isPrefixOf (c::r) with
     |none=>rw[hf] at h;simp at h
     |some m=>rw[hf] at h;simp at h
theorem QmI {r:By} {k n:Nat} (h:QaZ r=some (k,n)) (D:k=1):∃c r',r=c::r'/\digB c=true:=by
 subst D
 cases r with
 |nil=>simp[QaZ] at h
 |cons c r=>
  simp only[QaZ] at h;split at h
  ·simp at h
  ·split at h
   ·rename_i y
    exact⟨c,r,rfl,y⟩
   ·split at h
    ·cases hf:r.findIdx? (·==39) with
     |none=>rw[hf] at h;simp at h
     |some m=>rw[hf] at h;simp at h
    ·cases hf:QaD.find? fun m=>m.isPrefixOf (c::r) with
     |none=>rw[hf] at h;simp at h
     |some m=>rw[hf] at h;simp at h
theorem QfT:∀(f:Nat) (l:By) (p n:Nat) (ts:List Tk) (L:Nat),QfN f l p n=.ok ts->p+l.length<=L->n<=400->ts.length+n<=400/\∀t∈ts,t.1<=3/\t.2.1.length<=l.length/\t.2.2<=L/\(t.1=2->2<=t.2.1.length)/\(t.1=1->(t.2.1.head?.map (·.toNat))≠some 45)
 |0,l,p,n,ts,L,h,hL,hn=>by
  simp only[QfN,Except.ok.injEq] at h;subst h;simpa using hn
 |f+1,l,p,n,ts,L,h,hL,hn=>by
  rw[Qed] at h;have V:=QdM blankB l;split at h
  ·simp only[Except.ok.injEq] at h;subst h;simpa using hn
  ·split at h
   ·cases h
   ·rename_i k len D
    split at h
    ·cases h
    ·rename_i N
     split at h
     ·cases h
     ·rename_i us M
      simp only[Except.ok.injEq] at h;subst h;obtain⟨U,I,J⟩:=Qh5 D;rw[List.length_drop] at I;obtain⟨O,K⟩:=QfT f _ _ _ us L M (by simp only[List.length_drop];omega) (by omega);refine⟨by simp only[List.length_cons];omega,fun t y=>?_⟩;rw[List.mem_cons] at y;rcases y with rfl|y
      ·refine⟨J,?_,(show p+runL blankB l<=L from by omega),fun h2=>?_,fun h1=>?_⟩
       ·simp only[List.length_take,List.length_drop];omega
       ·have:=QmH (k:=k) D h2;simp only[List.length_take,List.length_drop];omega
       ·obtain⟨c,r,H,F⟩:=QmI (k:=k) D h1;simp only[H];obtain⟨m,rfl⟩:∃m,len=m+1:=⟨len-1,by omega⟩;simp only[List.take_succ_cons,List.head?_cons,Option.map_some,ne_eq,Option.some.injEq];unfold digB at F;simp at F;omega
      ·obtain⟨a,b,c,d,e⟩:=K t y;simp only[List.length_drop] at b;exact⟨a,by omega,c,d,e⟩
theorem QkP (w:World):(Instr.typeAssert .nilIface 20 100 true).run Tryz.prog w=.ok (.tuple #[.pointer none,.bool false]) w:=by kernel_rfl
theorem QmJ (a:Option Addr) (w:World):(Instr.typeAssert (.iface 100 (.pointer a)) 20 100 true).run Tryz.prog w=.ok (.tuple #[.pointer a,.bool true]) w:=by kernel_rfl
theorem QpF (w:World):(binOp BinOp.neq 20 .nilIface .nilIface).run Tryz.prog w=.ok (.bool false) w:=by kernel_rfl
theorem QkQ (p:Addr) (w:World):
 CallsD Tryz.prog 44 #[.pointer (some p)] .returning w fun e u' w'=>e=.returned (.tuple #[])/\u'=.returning/\w'=w:=by
 have h:=QkP;have y:=QpF;refine callsD_of_wpS Tryz.func44 rfl fun c₀ cs hu=>?_
 apply wpS_seq;apply wpS_region;simp[wpOpsS,go_sem,recoverD,hu,Tryz.ntmps44,Exit.thenS];simp only[Array.replicate_succ,Array.replicate_zero,List.push_toArray,List.append_toArray,List.nil_append,List.cons_append,List.setIfInBounds_toArray,List.set_cons_zero,List.set_cons_succ];refine wpS_of_wp ?_;go_wp2
 cases c₀
 simp_all [bodyPostS,results,Tryz.results44,Exit.thenS]
theorem QjL (p b:Addr) (h:Value) (w:World) (D:w.cell? p=some h) (F:w.frozen? p=false):
 CallsD Tryz.prog 44 #[.pointer (some p)] (.panicking ({v:=.iface 100 (.pointer (some b)),recovered:=false}::[])) w fun e u' w'=>e=.returned (.tuple #[])/\u'=.panicking ({v:=.iface 100 (.pointer (some b)),recovered:=true}::[])/\w'=w.setCell p (.iface 100 (.pointer (some b))):=by
 have y:=QmJ;refine callsD_of_wpS Tryz.func44 rfl fun c₀ cs hu=>?_
 apply wpS_seq;apply wpS_region;simp[wpOpsS,go_sem,recoverD,hu,Tryz.ntmps44,Exit.thenS];simp only[Array.replicate_succ,Array.replicate_zero,List.push_toArray,List.append_toArray,List.nil_append,List.cons_append,List.setIfInBounds_toArray,List.set_cons_zero,List.set_cons_succ];refine wpS_of_wp ?_;go_wp2
 cases c₀
 simp_all [bodyPostS,results,Tryz.results44,Exit.thenS]
theorem HI.mono {w:World} {B B':Nat} (y:B'<=B):∀{l:List FIn} {h:List Value},HI w B l h->HI w B' l h
 |[],[],_=>trivial
 |a::l,v::h,hh=>⟨own_mono y hh.1,HI.mono y hh.2⟩
 |[],_::_,hh=>hh.elim
 |_::_,[],hh=>hh.elim
theorem HJ.mono {w:World} {B B':Nat} (h:B'<=B):∀{l:List FJob} {y:List (Value×Value×Value)},HJ w B l y->HJ w B' l y
 |[],[],_=>trivial
 |a::l,v::y,hh=>⟨⟨own_mono h hh.1.1,own_mono h hh.1.2.1,own_mono h hh.1.2.2⟩,HJ.mono h hh.2⟩
 |[],_::_,hh=>hh.elim
 |_::_,[],hh=>hh.elim
theorem FlowO.mono {w:World} {B B':Nat} {I:List FIn} {D:Value} {J:List FJob} {H:Value} {O:List FOut} {F:Value} (h:FlowO w B I D J H O F) (y:B'<=B):FlowO w B' I D J H O F:=by
 obtain⟨⟨K,U,M⟩,⟨us,Z,N⟩,V⟩:=h;exact⟨⟨K,own_mono y U,M.mono y⟩,⟨us,own_mono y Z,N.mono y⟩,own_mono y V⟩
def Qqt (r:Except (Int×Nat) Flw) (e:Ending) (B:Nat) (w':World):Prop:=
 (∃f vi vj vo,r=.ok f/\e=.returned (.tuple #[.agg #[vi,vj,vo],.nilIface])/\FlowO w' B f.ins vi f.jobs vj f.outs vo)\/
 (∃er b,r=.error er/\e=.returned (.tuple #[.agg #[.slice none 0 0,.slice none 0 0,.slice none 0 0],.iface 100 (.pointer (some ⟨b,0,none⟩))])/\w'.cell? ⟨b,0,none⟩=some (.int .i64 er.1)/\w'.cell? ⟨b,1,none⟩=some (.int .i64 er.2)/\B<=b/\b<w'.heap.size)
theorem QmK:∀(ts:List Tk) (j:Nat) (h:j<ts.length),(tkV ts)[j*3]? =some (.int .i64 (ts[j].1:Nat))/\(tkV ts)[j*3+1]? =some (.string (ba ts[j].2.1))/\(tkV ts)[j*3+2]? =some (.int .i64 (ts[j].2.2:Nat))
 |[],j,h=>by simp at h
 |t::r,0,h=>by simp[tkV]
 |t::r,j+1,h=>by
  have y:=QmK r j (by simpa using h);have e:tkV (t::r)=[.int .i64 (t.1:Nat),.string (ba t.2.1),.int .i64 (t.2.2:Nat)]++tkV r:=rfl;rw[e,show(j+1)*3=3+j*3 by omega];refine⟨?_,?_,?_⟩
  ·rw[List.getElem?_append_right (by simp)];simpa using y.1
  ·rw[List.getElem?_append_right (by simp;omega)];simpa [Nat.add_assoc] using y.2.1
  ·rw[List.getElem?_append_right (by simp;omega)];simpa [Nat.add_assoc] using y.2.2
theorem Qqu {w:World} {v:Value} {ts:List Tk} {B:Nat} (V:w.ownsRow B 143 3 v ts.length (tkV ts)) (O:GoodT ts) (F:FEnv w):RD (w.alloc (.cells #[v] 105)) w.heap.size ts:=by
 obtain⟨t0,r0,K⟩:=O.ne;obtain⟨-,⟨-,M⟩|⟨g,h,aa,rfl,hB,H,Z,hm,hs,U⟩⟩:=V
 ·rw[K] at M;simp at M
 have D:g<w.heap.size:=by
  rcases Nat.lt_or_ge g w.heap.size with q|q
  ·exact q
  ·rw[Array.getElem?_eq_none q] at H;simp at H
 have N:=Qaa w (.cells #[.slice (some ⟨g,0,none⟩) ts.length h] 105);have J:∀i x,(tkV ts)[i]? =some x->(w.alloc (.cells #[.slice (some ⟨g,0,none⟩) ts.length h] 105)).cell? ⟨g,0+i,none⟩=some x:=by
  intro i x y;rw[N.cell (p:=⟨g,0+i,none⟩) D];rw[<-U,List.getElem?_take] at y;split at y
  ·simp only[World.cell?,H,Nat.zero_add];simpa using y
  ·cases y
 refine⟨⟨g,0,h,by simp,Z,D,fun j hj=>?_⟩,by simp,by simp,O,F.blocks (by simp) (fun q hq=>N.block q (F.size q hq)),fun q hq=>F.size q hq⟩;have I:=QmK ts j hj;exact⟨J _ _ I.1,J _ _ I.2.1,J _ _ I.2.2⟩
theorem QfU {l:By} {ts:List Tk} (D:l.length<=1000000) (h:QbZ l=.ok ts):GoodT ts:=by
 unfold QbZ at h
 cases hk:QfN (l.length+1) l 0 0 with
 |error e=>rw[hk] at h;cases h
 |ok us=>
  rw[hk] at h;simp only[Except.ok.injEq] at h;subst h;obtain⟨H,F⟩:=QfT _ l 0 0 us l.length hk (by omega) (by omega);refine⟨⟨us,_,rfl,rfl,rfl⟩,fun t y=>?_,by simp;omega⟩;rw[List.mem_append] at y;rcases y with y|y
  ·obtain⟨a,b,c,d,e⟩:=F t y;exact⟨by omega,by omega,by omega,d,e⟩
  ·simp at y;subst y;exact⟨by simp,by simp,by simpa using D,by simp,by simp⟩
theorem parse_any (l:By) (w:World) (hl:l.length<=1000000) (hE:FEnv w):
 Calls Tryz.prog 17 #[.string (ba l)] w fun e w'=>Qqt (parseF l) e w.heap.size w'/\Below w.heap.size w w':=by
 have aX:=mkF;have HE:=Hk hE;clear hE
 go_enter_defers Tryz.func17,Tryz.ntmps17
 go_wp2_with (go_at_call 45;fail);have J:=Hk (bel_box (Qaa w (.cells #[.slice none 0 0,.slice none 0 0,.slice none 0 0] 29)) (.cells #[.nilIface] 34));have X1:=Hk ((Box.new w [.slice none 0 0,.slice none 0 0,.slice none 0 0] 29 _ rfl).below (Qaa _ (.cells #[.nilIface] 34)));have Y1:=Hk (Box.new (w.alloc (.cells #[.slice none 0 0,.slice none 0 0,.slice none 0 0] 29)) [.nilIface] 34 (w.heap.size+1) (by simp));refine(QkO l _ hl (HE.out.blocks J.out.size (fun g hg=>J.out.block g (HE.out.size g hg)))).mono ?_;rintro e w2 ⟨⟨ts,v,K,rfl,ab⟩|⟨er,K,O⟩,D⟩
 ·have ac:=QfU hl K;obtain⟨Z,H,rfl⟩:=own_slice ab;have X2:=Hk (X1.out.below D);have U:=Hk (Y1.out.below D);have B2:=Hk (bel_then J.out D);have aG:=Hk (Qqu ab ac (HE.out.blocks B2.out.size (fun g hg=>B2.out.block g (HE.out.size g hg))));have av:=Hk (show parseF l=Qc5 ts by rw[parseF,K];rfl);have q1:=X2.out.lt;have q2:=U.out.lt;clear K ab ac D X1 Y1 J;go_wp2_with (go_at_call 46;fail);refine(Qmy w2.heap.size ts _ aG.out).mono ?_;rintro e w4 ⟨⟨f,vi,vj,vo,hf,rfl,N⟩|⟨er,hf,O⟩,F⟩
  ·have HP:=Hk (show parseF l=.ok f by rw[av.out,hf]);have I:=Hk ((X2.out.below (Qaa _ (.cells #[.slice Z ts.length H] 105))).but F (by omega));have M:=Hk ((U.out.below (Qaa _ (.cells #[.slice Z ts.length H] 105))).but F (by omega));have B4:=Hk ((bel_box B2.out (.cells #[.slice Z ts.length H] 105)).trans (F.below (B:=w.heap.size) (by omega) (by simp;omega)));have aI:=Hk N;obtain⟨a1,c1,e1⟩:∃a c,vi=.slice a f.ins.length c:=by obtain⟨vs,hr,-⟩:=N.ins;exact own_slice hr
   obtain⟨a2,c2,e2⟩:∃a c,vj=.slice a f.jobs.length c:=by obtain⟨vs,hr,-⟩:=N.jobs;exact own_slice hr
   obtain⟨a3,c3,e3⟩:∃a c,vo=.slice a f.outs.length c:=own_slice N.row;subst e1 e2 e3;have x0:=I.out.cell 0 rfl;have x1:=I.out.cell 1 rfl;have x2:=I.out.cell 2 rfl;have x3:=I.out.fz 0;have x4:=I.out.fz 1;have x5:=I.out.fz 2;have y0:=M.out.cell 0 rfl;have y1:=M.out.fz 0;have X5:=Hk (((I.out.set 0 (.slice a1 f.ins.length c1)).set 1 (.slice a2 f.jobs.length c2)).set 2 (.slice a3 f.outs.length c3));have q3:=I.out.lt;have q4:=M.out.lt;clear hf N F;go_wp2;refine leaves_cons (f:=44) (args:=#[.pointer (some ⟨w.heap.size+1,0,none⟩)]) (by simp) (by simp[go_sem]) ?_;refine(QkQ ⟨w.heap.size+1,0,none⟩ _).mono ?_;rintro e u' w5 ⟨rfl,rfl,rfl⟩;have X6:=Hk (X5.out.other (k':=w.heap.size+1) 0 .nilIface (by omega));have Y6:=Hk ((((M.out.other (k':=w.heap.size) 0 (.slice a1 f.ins.length c1) (by omega)).other (k':=w.heap.size) 1 (.slice a2 f.jobs.length c2) (by omega)).other (k':=w.heap.size) 2 (.slice a3 f.outs.length c3) (by omega)).set 0 .nilIface);have z0:=X6.out.cell 0 rfl;have z1:=X6.out.cell 1 rfl;have z2:=X6.out.cell 2 rfl;have z3:=Y6.out.cell 0 rfl;have aD:w.heap.size+1<(w2.alloc (.cells #[.slice Z ts.length H] 105)).heap.size+2:=by simp;omega
   have FL:=((((aI.out.imp (fun e z n v xs h=>ownsRow_setCell_below h (a:=⟨w.heap.size,0,none⟩) (by show w.heap.size<_;omega) (.slice a1 f.ins.length c1))).imp (fun e z n v xs h=>ownsRow_setCell_below h (a:=⟨w.heap.size,1,none⟩) (by show w.heap.size<_;omega) (.slice a2 f.jobs.length c2))).imp (fun e z n v xs h=>ownsRow_setCell_below h (a:=⟨w.heap.size,2,none⟩) (by show w.heap.size<_;omega) (.slice a3 f.outs.length c3))).imp (fun e z n v xs h=>ownsRow_setCell_below h (a:=⟨w.heap.size+1,0,none⟩) aD .nilIface)).mono (B':=w.heap.size) (by omega);refine⟨.tuple #[.agg #[.slice a1 f.ins.length c1,.slice a2 f.jobs.length c2,.slice a3 f.outs.length c3],.nilIface],by simp[results,Tryz.results17,go_sem,z0,z1,z2,z3],Or.inl ⟨f,_,_,_,HP.out,rfl,FL⟩,(((B4.out.setCell (p:=⟨w.heap.size,0,none⟩) (Nat.le_refl _) _).setCell (p:=⟨w.heap.size,1,none⟩) (Nat.le_refl _) _).setCell (p:=⟨w.heap.size,2,none⟩) (Nat.le_refl _) _).setCell (p:=⟨w.heap.size+1,0,none⟩) (by show w.heap.size<=w.heap.size+1;omega) _⟩
  ·obtain⟨y,rfl,t0,t1,tB,tl⟩:=O;have HP:=Hk (show parseF l=.error er by rw[av.out,hf]);have I:=Hk ((X2.out.below (Qaa _ (.cells #[.slice Z ts.length H] 105))).but F (by omega));have M:=Hk ((U.out.below (Qaa _ (.cells #[.slice Z ts.length H] 105))).but F (by omega));have B4:=Hk ((bel_box B2.out (.cells #[.slice Z ts.length H] 105)).trans (F.below (B:=w.heap.size) (by omega) (by simp;omega)));have tB':w.heap.size+2<=y:=by simp at tB;omega
   clear hf F;go_wp2;refine leaves_cons (f:=44) (args:=#[.pointer (some ⟨w.heap.size+1,0,none⟩)]) (by simp) (by simp[go_sem]) ?_;refine(QjL ⟨w.heap.size+1,0,none⟩ ⟨y,0,none⟩ .nilIface w4 (M.out.cell 0 rfl) (M.out.fz 0)).mono ?_;rintro e u' w5 ⟨rfl,rfl,rfl⟩;have V:=Hk (I.out.other (k':=w.heap.size+1) 0 (.iface 100 (.pointer (some ⟨y,0,none⟩))) (by omega));have Y3:=Hk (M.out.set 0 (.iface 100 (.pointer (some ⟨y,0,none⟩))));have z0:=V.out.cell 0 rfl;have z1:=V.out.cell 1 rfl;have z2:=V.out.cell 2 rfl;have z3:=Y3.out.cell 0 rfl;have ae:(⟨w.heap.size+1,0,none⟩:Addr)≠⟨y,0,none⟩:=by intro e;injection e with e;omega
   have aa:(⟨w.heap.size+1,0,none⟩:Addr)≠⟨y,1,none⟩:=by intro e;injection e with e;omega
   refine⟨.tuple #[.agg #[.slice none 0 0,.slice none 0 0,.slice none 0 0],.iface 100 (.pointer (some ⟨y,0,none⟩))],by simp[results,Tryz.results17,go_sem,z0,z1,z2,z3],Or.inr ⟨er,y,HP.out,rfl,(World.cell?_setCell_other _ _ _ _ ae).trans t0,(World.cell?_setCell_other _ _ _ _ aa).trans t1,by omega,by rw[Qac];exact tl⟩,B4.out.setCell (by show w.heap.size<=w.heap.size+1;omega) _⟩
 ·obtain⟨y,rfl,t0,t1,tB,tl⟩:=O;have HP:=Hk (show parseF l=.error er by rw[parseF,K];rfl);have X2:=Hk (X1.out.below D);have U:=Hk (Y1.out.below D);have B2:=Hk (bel_then J.out D);have tB':w.heap.size+2<=y:=by simpa using tB
  clear K D X1 Y1 J;go_wp2;refine leaves_cons (f:=44) (args:=#[.pointer (some ⟨w.heap.size+1,0,none⟩)]) (by simp) (by simp[go_sem]) ?_;refine(QjL ⟨w.heap.size+1,0,none⟩ ⟨y,0,none⟩ .nilIface w2 (U.out.cell 0 rfl) (U.out.fz 0)).mono ?_;rintro e u' w3 ⟨rfl,rfl,rfl⟩;have V:=Hk (X2.out.other (k':=w.heap.size+1) 0 (.iface 100 (.pointer (some ⟨y,0,none⟩))) (by omega));have Y3:=Hk (U.out.set 0 (.iface 100 (.pointer (some ⟨y,0,none⟩))));have z0:=V.out.cell 0 rfl;have z1:=V.out.cell 1 rfl;have z2:=V.out.cell 2 rfl;have z3:=Y3.out.cell 0 rfl;have ae:(⟨w.heap.size+1,0,none⟩:Addr)≠⟨y,0,none⟩:=by intro e;injection e with e;omega
  have aa:(⟨w.heap.size+1,0,none⟩:Addr)≠⟨y,1,none⟩:=by intro e;injection e with e;omega
  refine⟨.tuple #[.agg #[.slice none 0 0,.slice none 0 0,.slice none 0 0],.iface 100 (.pointer (some ⟨y,0,none⟩))],by simp[results,Tryz.results17,go_sem,z0,z1,z2,z3],Or.inr ⟨er,y,HP.out,rfl,(World.cell?_setCell_other _ _ _ _ ae).trans t0,(World.cell?_setCell_other _ _ _ _ aa).trans t1,by omega,by rw[Qac];exact tl⟩,B2.out.setCell (by show w.heap.size<=w.heap.size+1;omega) _⟩
end Go.Proofs.YtjlgejennghhlaaGreatDoor.Fw
