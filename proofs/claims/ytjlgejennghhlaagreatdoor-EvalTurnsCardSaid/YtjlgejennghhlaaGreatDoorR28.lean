import Derived.Deep.QuietTactic
import Derived.BigQuiet
import Derived.Test.YtjlgejennghhlaaGreatDoorR01
import Derived.Test.YtjlgejennghhlaaGreatDoorR20
set_option linter.unusedSimpArgs false
set_option linter.unusedVariables false
set_option linter.unusedSectionVars false
set_option maxRecDepth 1000000
set_option maxHeartbeats 16000000
namespace Go.Proofs.YtjlgejennghhlaaGreatDoor.Fw
open Go.RowKit
theorem QjW (c:UInt8) (w:World):Calls Tryz.prog 75 #[.int .u8 (c.toNat:Nat)] w fun e w'=>e=.returned (.bool (blankB c))/\w'=w:=by
 have y:blankB c=((c.toNat:Int)==32||(c.toNat:Int)==10):=by
  unfold blankB;have h:∀k:UInt8,(c==k)=((c.toNat:Int)==(k.toNat:Int)):=by
   intro k;rw[Bool.eq_iff_iff];simp[<-UInt8.toNat_inj];omega
  rw[h,h];rfl
 rw[y];generalize (c.toNat:Int)=n
 cases h0:(n==32)
 all_goals
  go_enter Tryz.func75,Tryz.ntmps75;go_wp2
 all_goals go_ret
 all_goals refine⟨ret_bool ?_,rfl⟩
 all_goals simp_all
theorem Qg7 (c:UInt8) (w:World):Calls Tryz.prog 105 #[.int .u8 (c.toNat:Nat)] w fun e w'=>e=.returned (.bool (QnF c))/\w'=w:=by
 have y:QnF c=(decide ((97:Int)<=(c.toNat:Int))&&decide ((c.toNat:Int)<=122)):=by
  unfold QnF;rw[Bool.eq_iff_iff];simp;omega
 rw[y];generalize (c.toNat:Int)=n
 by_cases h0:(97:Int)<=n
 all_goals
  go_enter Tryz.func105,Tryz.ntmps105;go_wp2
 all_goals go_ret
 all_goals refine⟨ret_bool ?_,rfl⟩
 all_goals first|(simp_all;done)|(simp_all;intro h;omega)
theorem Qei (c:UInt8) (w:World):Calls Tryz.prog 106 #[.int .u8 (c.toNat:Nat)] w fun e w'=>e=.returned (.bool (digB c))/\w'=w:=by
 have y:digB c=(decide ((48:Int)<=(c.toNat:Int))&&decide ((c.toNat:Int)<=57)):=by
  unfold digB;rw[Bool.eq_iff_iff];simp;omega
 rw[y];generalize (c.toNat:Int)=n
 by_cases h0:(48:Int)<=n
 all_goals
  go_enter Tryz.func106,Tryz.ntmps106;go_wp2
 all_goals go_ret
 all_goals refine⟨ret_bool ?_,rfl⟩
 all_goals first|(simp_all;done)|(simp_all;intro h;omega)
theorem QjX (c:UInt8) (a b:Addr) (w:World) (E:w.cell? a=some (.func (.func 105) #[] #[])) (F:w.cell? b=some (.func (.func 106) #[] #[])):Calls Tryz.prog 107 #[.int .u8 (c.toNat:Nat),.pointer (some a),.pointer (some b)] w fun e w'=>e=.returned (.bool (lowdigB c))/\w'=w:=by
 have h:=Hk (Qg7 c w);have D:=Hk (Qei c w);have y:=Hk (show lowdigB c=(QnF c||digB c) from rfl)
 cases h0:QnF c
 all_goals
  rw[h0] at h y;go_enter Tryz.func107,Tryz.ntmps107;go_wp2_with (first|(go_at_call 105;refine h.out.mono ?_;rintro e w' ⟨rfl,rfl⟩)|(go_at_call 106;refine D.out.mono ?_;rintro e w' ⟨rfl,rfl⟩))
 all_goals go_ret
 all_goals exact⟨ret_bool (by rw[y.out];rfl),rfl⟩
theorem QjY (p:UInt8->Bool):∀(l:By) (k:Nat) (h:k<l.length),(∀(j:Nat) (D:j<l.length),j<k->p l[j]=true)->p l[k]=false->runL p l=k
 |[],k,h,_,_=>by simp at h
 |c::r,0,h,_,hk=>by
  simp at hk;simp[runL,hk]
 |c::r,k+1,h,ha,hk=>by
  have E:p c=true:=ha 0 (by simp) (by omega);have y:=QjY p r k (by simpa using h) (fun j D hjk=>ha (j+1) (by simp;omega) (by omega)) (by simpa using hk);unfold runL at y⊢;rw[List.takeWhile_cons_of_pos E,List.length_cons,y]
theorem Qg8 (p:UInt8->Bool):∀(l:By),(∀(j:Nat) (D:j<l.length),p l[j]=true)->runL p l=l.length
 |[],_=>rfl
 |c::r,h=>by
  have E:p c=true:=h 0 (by simp);have y:=Qg8 p r (fun j D=>h (j+1) (by simp;omega));unfold runL at y⊢;rw[List.takeWhile_cons_of_pos E,List.length_cons,List.length_cons,y]
theorem Qh9 (l:By) (w:World) (O:l.length<=1000000):Calls Tryz.prog 76 #[.string (ba l),.func (.func 75) #[] #[]] w fun e w'=>e=.returned (.int .i64 (runL blankB l:Nat))/\w'=w:=by
 have M:(ba l).size=l.length:=Qdk l;go_enter Tryz.func76,Tryz.ntmps76;go_wp2
 go_loopg [8] l.length (fun g i wr=>∃k:Nat,k<=l.length/\i=.int .i64 k/\l.length-k<=g/\Aside (∀(j:Nat) (E:j<l.length),j<k->blankB l[j]=true)/\wr=w)
 case atStart=>exact⟨0,Nat.zero_le _,rfl,by omega,fun j _ h=>absurd h (by omega),rfl⟩
 case round=>
  obtain⟨k,N,rfl,U,H,y⟩:=hrel;have hwr':=y.symm;clear y;subst hwr'
  by_cases hlt:k<l.length
  ·have D:(k:Int)<(l.length:Int):=by omega
   cases hp:blankB l[k]
   ·have F:=Hk (QjY blankB l k hlt H.out hp);have I:=Hk hp;clear hp;go_wp2_with (go_at_call 75;fail);refine(QjW _ _).mono ?_;rintro e K ⟨rfl,rfl⟩;rw[show blankB (ba l)[k]=false from I.out];go_wp2;go_ret;exact⟨QbB (by rw[F.out]),rfl⟩
   ·have I:=Hk hp;have J:=Hk (show∀(j:Nat) (E:j<l.length),j<k+1->blankB l[j]=true from fun j h1 h2=>by
     by_cases h3:j<k
     ·exact H.out j h1 h3
     ·have:j=k:=by omega
      subst this;exact hp)
    clear hp;go_wp2_with (go_at_call 75;fail);refine(QjW _ _).mono ?_;rintro e K ⟨rfl,rfl⟩;rw[show blankB (ba l)[k]=true from I.out];go_wp2
    go_roundg (l.length-(k+1))
    case measure=>omega
    case rel=>exact⟨k+1,by omega,by go_num,Nat.le_refl _,J.out,rfl⟩
  ·have D:¬((k:Int)<(l.length:Int)):=by omega
   have F:=Hk (Qg8 blankB l (fun j E=>H.out j E (by omega)));go_wp2;go_ret;exact⟨QbB (by rw[F.out]),rfl⟩
theorem QpJ (l:By) (w:World) (O:l.length<=1000000):Calls Tryz.prog 76 #[.string (ba l),.func (.func 106) #[] #[]] w fun e w'=>e=.returned (.int .i64 (runL digB l:Nat))/\w'=w:=by
 have M:(ba l).size=l.length:=Qdk l;go_enter Tryz.func76,Tryz.ntmps76;go_wp2
 go_loopg [8] l.length (fun g i wr=>∃k:Nat,k<=l.length/\i=.int .i64 k/\l.length-k<=g/\Aside (∀(j:Nat) (E:j<l.length),j<k->digB l[j]=true)/\wr=w)
 case atStart=>exact⟨0,Nat.zero_le _,rfl,by omega,fun j _ h=>absurd h (by omega),rfl⟩
 case round=>
  obtain⟨k,N,rfl,U,H,y⟩:=hrel;have hwr':=y.symm;clear y;subst hwr'
  by_cases hlt:k<l.length
  ·have D:(k:Int)<(l.length:Int):=by omega
   cases hp:digB l[k]
   ·have F:=Hk (QjY digB l k hlt H.out hp);have I:=Hk hp;clear hp;go_wp2_with (go_at_call 106;fail);refine(Qei _ _).mono ?_;rintro e K ⟨rfl,rfl⟩;rw[show digB (ba l)[k]=false from I.out];go_wp2;go_ret;exact⟨QbB (by rw[F.out]),rfl⟩
   ·have I:=Hk hp;have J:=Hk (show∀(j:Nat) (E:j<l.length),j<k+1->digB l[j]=true from fun j h1 h2=>by
     by_cases h3:j<k
     ·exact H.out j h1 h3
     ·have:j=k:=by omega
      subst this;exact hp)
    clear hp;go_wp2_with (go_at_call 106;fail);refine(Qei _ _).mono ?_;rintro e K ⟨rfl,rfl⟩;rw[show digB (ba l)[k]=true from I.out];go_wp2
    go_roundg (l.length-(k+1))
    case measure=>omega
    case rel=>exact⟨k+1,by omega,by go_num,Nat.le_refl _,J.out,rfl⟩
  ·have D:¬((k:Int)<(l.length:Int)):=by omega
   have F:=Hk (Qg8 digB l (fun j E=>H.out j E (by omega)));go_wp2;go_ret;exact⟨QbB (by rw[F.out]),rfl⟩
theorem QpK (l:By) (w:World) (V:l.length<=1000000) (a b:Addr) (K:w.cell? a=some (.func (.func 105) #[] #[])) (M:w.cell? b=some (.func (.func 106) #[] #[])):Calls Tryz.prog 76 #[.string (ba l),.func (.func 107) #[] #[.pointer (some a),.pointer (some b)]] w fun e w'=>e=.returned (.int .i64 (runL lowdigB l:Nat))/\w'=w:=by
 have O:(ba l).size=l.length:=Qdk l;go_enter Tryz.func76,Tryz.ntmps76;go_wp2
 go_loopg [8] l.length (fun g i wr=>∃k:Nat,k<=l.length/\i=.int .i64 k/\l.length-k<=g/\Aside (∀(j:Nat) (E:j<l.length),j<k->lowdigB l[j]=true)/\wr=w)
 case atStart=>exact⟨0,Nat.zero_le _,rfl,by omega,fun j _ h=>absurd h (by omega),rfl⟩
 case round=>
  obtain⟨k,U,rfl,Z,H,y⟩:=hrel;have hwr':=y.symm;clear y;subst hwr'
  by_cases hlt:k<l.length
  ·have D:(k:Int)<(l.length:Int):=by omega
   cases hp:lowdigB l[k]
   ·have F:=Hk (QjY lowdigB l k hlt H.out hp);have I:=Hk hp;clear hp;go_wp2_with (go_at_call 107;fail);refine(QjX _ _ _ _ K M).mono ?_;rintro e N ⟨rfl,rfl⟩;rw[show lowdigB (ba l)[k]=false from I.out];go_wp2;go_ret;exact⟨QbB (by rw[F.out]),rfl⟩
   ·have I:=Hk hp;have J:=Hk (show∀(j:Nat) (E:j<l.length),j<k+1->lowdigB l[j]=true from fun j h1 h2=>by
     by_cases h3:j<k
     ·exact H.out j h1 h3
     ·have:j=k:=by omega
      subst this;exact hp)
    clear hp;go_wp2_with (go_at_call 107;fail);refine(QjX _ _ _ _ K M).mono ?_;rintro e N ⟨rfl,rfl⟩;rw[show lowdigB (ba l)[k]=true from I.out];go_wp2
    go_roundg (l.length-(k+1))
    case measure=>omega
    case rel=>exact⟨k+1,by omega,by go_num,Nat.le_refl _,J.out,rfl⟩
  ·have D:¬((k:Int)<(l.length:Int)):=by omega
   have F:=Hk (Qg8 lowdigB l (fun j E=>H.out j E (by omega)));go_wp2;go_ret;exact⟨QbB (by rw[F.out]),rfl⟩
end Go.Proofs.YtjlgejennghhlaaGreatDoor.Fw
