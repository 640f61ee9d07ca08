import Derived.Shelf.Strings.Builder1
import Derived.Shelf.Strings.Builder2
import Derived.Shelf.Strings.OnBuilder
import Derived.Shelf.Strings.BuilderF
import Derived.Shelf.Strings.BuilderK
import Derived.Shelf.Strconv.Itoa0
import Derived.Shelf.Strconv.Itoa1
import Derived.Shelf.LaysM
import Derived.Shelf.Strconv.Itoa2
import Derived.Shelf.Strconv.Itoa3
import Derived.Shelf.Strings.Search1
import Derived.Shelf.Strings.Search2
import Derived.Shelf.Strings.Search3
import Derived.Shelf.Strings.Shaped
import Derived.Ground.GgsProg
import Derived.Shelf.GgSortFunc.Insertion
import Derived.Shelf.GgSortFunc.Tiny
import Derived.Shelf.GgSortFunc.Compose
import Derived.Ground.GgtProg
import Derived.Shelf.GgSortMore.Stable
import Derived.Shelf.Slices.Turned
import Derived.Test.YtofidnijfnhpaaaGreatDoorProg
import Derived.Lib.QuietBelow
import Derived.Test.YtofidnijfnhpaaaGreatDoorQ01
set_option linter.unusedSimpArgs false
set_option linter.unusedVariables false
set_option linter.unusedSectionVars false
set_option maxRecDepth 1000000
set_option maxHeartbeats 16000000
namespace Go.Proofs
open Go.Shelf
open Go.RowKit
open Go.Sort (grow)
def Tryz.lays156_ren:Go.Shelf.Ren:=⟨fun|156=>123|165=>137|166=>138|169=>139|240=>152|241=>153|276=>160|277=>161|n=>n,fun|31=>22|9=>9|3=>3|4=>4|0=>0|20=>20|72=>183|76=>185|70=>180|37=>181|75=>44|127=>207|164=>128|5=>5|80=>187|n=>n,fun|n=>n⟩
theorem Tryz.lays156:Go.Proofs.Lays.n156 Tryz.prog Tryz.lays156_ren:={
 mixed:=by kernel_rfl
 f156:=Tryz.func123.trans (congrArg some (by kernel_rfl))
 f165:=Tryz.func137.trans (congrArg some (by kernel_rfl))
 f166:=Tryz.func138.trans (congrArg some (by kernel_rfl))
 f169:=Tryz.func139.trans (congrArg some (by kernel_rfl))
 f240:=Tryz.func152.trans (congrArg some (by kernel_rfl))
 f241:=Tryz.func153.trans (congrArg some (by kernel_rfl))
 f276:=Tryz.func160.trans (congrArg some (by kernel_rfl))
 f277:=Tryz.func161.trans (congrArg some (by kernel_rfl))
 t0:=Tryz.underlying0
 a0:=Tryz.isAgg0
 z0:=Tryz.sizeOf0
 v0:=Tryz.zeroValue0
 t3:=Tryz.underlying3
 a3:=Tryz.isAgg3
 z3:=Tryz.sizeOf3
 v3:=Tryz.zeroValue3
 t4:=Tryz.underlying4
 a4:=Tryz.isAgg4
 z4:=Tryz.sizeOf4
 v4:=Tryz.zeroValue4
 t9:=Tryz.underlying9
 a9:=Tryz.isAgg9
 z9:=Tryz.sizeOf9
 v9:=Tryz.zeroValue9
 t20:=Tryz.underlying20
 a20:=Tryz.isAgg20
 z20:=Tryz.sizeOf20
 v20:=Tryz.zeroValue20
 t31:=Tryz.underlying22
 a31:=Tryz.isAgg22
 z31:=Tryz.sizeOf22
 v31:=Tryz.zeroValue22
 t37:=Tryz.underlying181
 a37:=Tryz.isAgg181
 z37:=Tryz.sizeOf181
 v37:=Tryz.zeroValue181
 t70:=Tryz.underlying180
 a70:=Tryz.isAgg180
 z70:=Tryz.sizeOf180
 v70:=Tryz.zeroValue180
 t72:=Tryz.underlying183
 a72:=Tryz.isAgg183
 z72:=Tryz.sizeOf183
 v72:=Tryz.zeroValue183
 t75:=Tryz.underlying44
 a75:=Tryz.isAgg44
 z75:=Tryz.sizeOf44
 v75:=Tryz.zeroValue44
 t76:=Tryz.underlying185
 a76:=Tryz.isAgg185
 z76:=Tryz.sizeOf185
 v76:=Tryz.zeroValue185
 t127:=Tryz.underlying207
 a127:=Tryz.isAgg207
 z127:=Tryz.sizeOf207
 v127:=Tryz.zeroValue207
 t164:=Tryz.underlying128
 a164:=Tryz.isAgg128
 z164:=Tryz.sizeOf128
 v164:=Tryz.zeroValue128}
theorem Tryz.Builder_Extra_156:Builder.Extra Tryz.prog Tryz.lays156_ren:={
 sizeBuilder:=by kernel_rfl
 liesBuilder:=by kernel_rfl
 t5:=Tryz.underlying5
 a5:=Tryz.isAgg5
 z5:=Tryz.sizeOf5
 v5:=Tryz.zeroValue5
 infoByte:=by kernel_rfl
 cellsByte:=by kernel_rfl
 sizeByte:=by kernel_rfl
 neB5:=by decide}
theorem Tryz.strings_Join (z o c:Nat) (h:List ByteArray) (q:ByteArray) (w:World) (y:∀(j:Nat) x,h[j]? =some x->w.cell? ⟨z,o+j,none⟩=some (.string x)) (D:z<w.heap.size) (E:h.length<=140737488355328) (B:h.length<=c) (A:(Lib.join (h.map (·.data.toList)) q.data.toList).length<=140737488355328):
 Calls Tryz.prog 123 #[.slice (some ⟨z,o,none⟩) h.length c,.string q] w fun e w'=>e=.returned (.string ⟨(Lib.join (h.map (·.data.toList)) q.data.toList).toArray⟩)/\Below w.heap.size w w':=Any.strings_Join Tryz.lays156 Tryz.Builder_Extra_156 z o c h q w y D E B A
def Tryz.laysM171_ren:Go.Shelf.Ren:=⟨fun|171=>86|243=>116|246=>133|283=>147|284=>148|285=>149|286=>150|129=>155|317=>154|318=>156|319=>157|320=>158|337=>162|338=>163|n=>n,fun|3=>3|9=>9|2=>2|4=>4|171=>201|0=>0|53=>202|37=>181|5=>5|173=>205|212=>209|51=>189|20=>20|213=>210|46=>168|232=>215|233=>216|n=>n,fun|17=>2|18=>3|19=>4|n=>n⟩
theorem Tryz.laysM171:Go.Proofs.LaysM.n171 Tryz.prog Tryz.laysM171_ren:={
 mixed:=by kernel_rfl
 f129:=Tryz.func155.trans (congrArg some (by kernel_rfl))
 f171:=Tryz.func86.trans (congrArg some (by kernel_rfl))
 f243:=Tryz.func116.trans (congrArg some (by kernel_rfl))
 f246:=Tryz.func133.trans (congrArg some (by kernel_rfl))
 f283:=Tryz.func147.trans (congrArg some (by kernel_rfl))
 f284:=Tryz.func148.trans (congrArg some (by kernel_rfl))
 f285:=Tryz.func149.trans (congrArg some (by kernel_rfl))
 f286:=Tryz.func150.trans (congrArg some (by kernel_rfl))
 f317:=Tryz.func154.trans (congrArg some (by kernel_rfl))
 f318:=Tryz.func156.trans (congrArg some (by kernel_rfl))
 f319:=Tryz.func157.trans (congrArg some (by kernel_rfl))
 f320:=Tryz.func158.trans (congrArg some (by kernel_rfl))
 f337:=Tryz.func162.trans (congrArg some (by kernel_rfl))
 f338:=Tryz.func163.trans (congrArg some (by kernel_rfl))
 t0:=Tryz.underlying0
 a0:=Tryz.isAgg0
 z0:=Tryz.sizeOf0
 v0:=Tryz.zeroValue0
 t2:=Tryz.underlying2
 a2:=Tryz.isAgg2
 z2:=Tryz.sizeOf2
 v2:=Tryz.zeroValue2
 t3:=Tryz.underlying3
 a3:=Tryz.isAgg3
 z3:=Tryz.sizeOf3
 v3:=Tryz.zeroValue3
 t4:=Tryz.underlying4
 a4:=Tryz.isAgg4
 z4:=Tryz.sizeOf4
 v4:=Tryz.zeroValue4
 t5:=Tryz.underlying5
 a5:=Tryz.isAgg5
 z5:=Tryz.sizeOf5
 v5:=Tryz.zeroValue5
 t9:=Tryz.underlying9
 a9:=Tryz.isAgg9
 z9:=Tryz.sizeOf9
 v9:=Tryz.zeroValue9
 t20:=Tryz.underlying20
 a20:=Tryz.isAgg20
 z20:=Tryz.sizeOf20
 v20:=Tryz.zeroValue20
 t37:=Tryz.underlying181
 a37:=Tryz.isAgg181
 z37:=Tryz.sizeOf181
 v37:=Tryz.zeroValue181
 t46:=Tryz.underlying168
 a46:=Tryz.isAgg168
 z46:=Tryz.sizeOf168
 v46:=Tryz.zeroValue168
 t51:=Tryz.underlying189
 a51:=Tryz.isAgg189
 z51:=Tryz.sizeOf189
 v51:=Tryz.zeroValue189
 t53:=Tryz.underlying202
 a53:=Tryz.isAgg202
 z53:=Tryz.sizeOf202
 v53:=Tryz.zeroValue202
 t171:=Tryz.underlying201
 a171:=Tryz.isAgg201
 z171:=Tryz.sizeOf201
 v171:=Tryz.zeroValue201
 t173:=Tryz.underlying205
 a173:=Tryz.isAgg205
 z173:=Tryz.sizeOf205
 v173:=Tryz.zeroValue205
 t212:=Tryz.underlying209
 a212:=Tryz.isAgg209
 z212:=Tryz.sizeOf209
 v212:=Tryz.zeroValue209
 t213:=Tryz.underlying210
 a213:=Tryz.isAgg210
 z213:=Tryz.sizeOf210
 t232:=Tryz.underlying215
 a232:=Tryz.isAgg215
 z232:=Tryz.sizeOf215
 v232:=Tryz.zeroValue215
 t233:=Tryz.underlying216
 a233:=Tryz.isAgg216
 z233:=Tryz.sizeOf216
 v233:=Tryz.zeroValue216
 g17:=by kernel_rfl
 g18:=by kernel_rfl
 g19:=by kernel_rfl
 i0:=by kernel_rfl
 i2:=by kernel_rfl
 i3:=by kernel_rfl
 i4:=by kernel_rfl
 i5:=by kernel_rfl
 i9:=by kernel_rfl
 i20:=by kernel_rfl
 i37:=by kernel_rfl
 i46:=by kernel_rfl
 i51:=by kernel_rfl
 i53:=by kernel_rfl
 i171:=by kernel_rfl
 i173:=by kernel_rfl
 i212:=by kernel_rfl
 i232:=by kernel_rfl
 i233:=by kernel_rfl
 m17:=by kernel_rfl
 m18:=by kernel_rfl
 m19:=by kernel_rfl}
theorem Tryz.strconv_Itoa (n:Int) (o: -9223372036854775808<=n) (j:n<=9223372036854775807) (w:World) (h:Lib.TabIs Tryz.prog w "internal/strconv.uint64pow10" .u64 Lib.pow10Tab):
 Calls Tryz.prog 86 #[.int .i64 n] w fun e w'=>e=.returned (.string ⟨(Lib.itoa n).toArray⟩)/\∃k os,w'=grow (w.drewN k) os:=Any.strconv_Itoa Tryz.laysM171 n o j w h
def Tryz.lays144_ren:Go.Shelf.Ren:=⟨fun|144=>44|143=>75|219=>101|217=>125|225=>126|224=>127|267=>128|266=>141|314=>142|n=>n,fun|9=>9|4=>4|3=>3|5=>5|46=>168|146=>190|51=>189|n=>n,fun|1=>0|n=>n⟩
theorem Tryz.lays144:Go.Proofs.Lays.n144 Tryz.prog Tryz.lays144_ren:={
 mixed:=by kernel_rfl
 f143:=Tryz.func75.trans (congrArg some (by kernel_rfl))
 f144:=Tryz.func44.trans (congrArg some (by kernel_rfl))
 f217:=Tryz.func125.trans (congrArg some (by kernel_rfl))
 f219:=Tryz.func101.trans (congrArg some (by kernel_rfl))
 f224:=Tryz.func127.trans (congrArg some (by kernel_rfl))
 f225:=Tryz.func126.trans (congrArg some (by kernel_rfl))
 f266:=Tryz.func141.trans (congrArg some (by kernel_rfl))
 f267:=Tryz.func128.trans (congrArg some (by kernel_rfl))
 f314:=Tryz.func142.trans (congrArg some (by kernel_rfl))
 t3:=Tryz.underlying3
 a3:=Tryz.isAgg3
 z3:=Tryz.sizeOf3
 v3:=Tryz.zeroValue3
 t4:=Tryz.underlying4
 a4:=Tryz.isAgg4
 z4:=Tryz.sizeOf4
 v4:=Tryz.zeroValue4
 t5:=Tryz.underlying5
 a5:=Tryz.isAgg5
 z5:=Tryz.sizeOf5
 v5:=Tryz.zeroValue5
 t9:=Tryz.underlying9
 a9:=Tryz.isAgg9
 z9:=Tryz.sizeOf9
 v9:=Tryz.zeroValue9
 t46:=Tryz.underlying168
 a46:=Tryz.isAgg168
 z46:=Tryz.sizeOf168
 v46:=Tryz.zeroValue168
 t51:=Tryz.underlying189
 a51:=Tryz.isAgg189
 z51:=Tryz.sizeOf189
 v51:=Tryz.zeroValue189
 t146:=Tryz.underlying190
 a146:=Tryz.isAgg190
 z146:=Tryz.sizeOf190
 v146:=Tryz.zeroValue190
 g1:=by kernel_rfl}
theorem Tryz.strings_Contains (s h:ByteArray) (m:Int) (w:World) (j:s.size<4294967281) (o:w.cell? ⟨0,0,none⟩=some (.int .i64 m)):
 Calls Tryz.prog 44 #[.string s,.string h] w fun e w'=>e=.returned (.bool (Lib.contains s.data.toList h.data.toList))/\w'=w:=Any.strings_Contains Tryz.lays144 s h m w j o
end Go.Proofs
namespace Go.Proofs.YtofidnijfnhpaaaGreatDoor
open Go.RowKit
theorem QbM {W j:World} (q:Below W.heap.size W j):(∀b o,b<W.heap.size->j.cell? ⟨b,o,none⟩=W.cell? ⟨b,o,none⟩)/\(∀b o,b<W.heap.size->j.frozen? ⟨b,o,none⟩=W.frozen? ⟨b,o,none⟩):=
 ⟨fun b o h=>q.cell (p:=⟨b,o,none⟩) h,fun b o h=>q.frozen (p:=⟨b,o,none⟩) h⟩
theorem Qls {P:Program} {f:FuncId} {args:Array Value} {w:World} {v:Value} (h:Calls P f args w fun e w'=>e=.returned v/\w'=w):Calls P f args w fun e w'=>e=.returned v/\Below w.heap.size w w':=
 h.mono fun _ _ x=>⟨x.1,by rw[x.2];exact Below.refl _ _⟩
def Qfz (n:Int):Bool:=n==1||n==2
def Qca (seen:List (ByteArray×Int)):List (ByteArray×Int)->Bool
 |[]=>true
 |c::r=>Qd9 c.1.data.toList&&(Qfz c.2&&(!Qbw seen c.1.data.toList&&Qca (seen++[c]) r))
def Qah (cs:List (ByteArray×Int)):Bool:=decide (1<=cs.length)&&(decide (cs.length<=6)&&Qca [] cs)
theorem Qem (cs:List (ByteArray×Int)) (k:Nat) (h:k<cs.length):Qca (cs.take k) (cs.drop k)=(Qd9 cs[k].1.data.toList&&(Qfz cs[k].2&&(!Qbw (cs.take k) cs[k].1.data.toList&&Qca (cs.take (k+1)) (cs.drop (k+1))))):=by
 rw[List.drop_eq_getElem_cons h,List.take_succ_eq_append_getElem h];rfl
theorem Qas.take {w:World} {b o:Nat} {cs:List (ByteArray×Int)} (h:Qas w b o cs) (k:Nat):Qas w b o (cs.take k):=fun j q=>by
 have hj':j<cs.length:=by rw[List.length_take] at q;omega
 have:=h j hj'
 rw[List.getElem_take];exact this
theorem Qik (n:Int) (w:World):Calls Tryz.prog 88 #[.int .i64 n] w fun e w'=>e=.returned (.bool (Qfz n))/\w'=w:=Qi9 n w
theorem Qgc (b o n c:Nat) (cs:List (ByteArray×Int)) (w:World) (N:cs.length=n) (h1:1<=n) (h6:n<=6) (ae:n<=c) (O:b<w.heap.size) (hc:Qas w b o cs) (hs:∀x∈cs,x.1.size<=maxLen):
 Calls Tryz.prog 61 #[.slice (some ⟨b,o,none⟩) n c] w fun e w'=>e=.returned (.bool (Qah cs))/\Below w.heap.size w w':=by
 have hr:Qah cs=Qca [] cs:=by simp[Qah,N,h1,h6]
 have I:=Hk hr
 have V:=Hk N
 clear hr N
 have e0:((n:Int)==0)=false:=by simp;omega
 go_enter Tryz.func61,Tryz.ntmps61
 go_wp2
 go_loopw [15] (fun i wr=>∃k:Nat,k<=n/\i=.int .i64 k/\Qca [] cs=Qca (cs.take k) (cs.drop k)/\Below w.heap.size w wr) (fun i _=>n-(intOf i).toNat)
 case atStart=>exact⟨0,Nat.zero_le _,rfl,rfl,Below.refl _ _⟩
 case round=>
  obtain⟨k,hk,rfl,K,h⟩:=hrel
  have F:=Hk K
  clear K
  by_cases hlt:k<n
  ·have E:k<cs.length:=by have:=V.out;omega
   obtain⟨c1,c2⟩:=hc k E
   have d1:=cK h O c1
   have d2:=cK h O c2
   clear c1 c2
   have U:b<wr.heap.size:=by have:=h.size;omega
   have ab:cs[k].1.size<=maxLen:=hs _ (List.getElem_mem E)
   have T:Qas wr b o (cs.take k):=(hc.below h O).take k
   have M:(cs.take k).length=k:=by rw[List.length_take];omega
   have Z:=Hk M
   clear M
   have J:=Hk (Qem cs k E)
   have k1:=cell_regrown (w:=wr.alloc (.cells #[.string cs[k].1,.int .i64 cs[k].2] 56)) (a:=⟨wr.heap.size,0,none⟩) (v:=.string cs[k].1) (by simp)
   have k2:=cell_regrown (w:=wr.alloc (.cells #[.string cs[k].1,.int .i64 cs[k].2] 56)) (a:=⟨wr.heap.size,1,none⟩) (v:=.int .i64 cs[k].2) (by simp)
   have A:∀d os,_:=fun d os=>Calls.regrown_of (Qkr cs[k].1 (Sort.grow (redrawn (wr.alloc (.cells #[.string cs[k].1,.int .i64 cs[k].2] 56)) d) os) ab)
   have z:∀d os,_:=fun d os=>Calls.regrown_of (Qls (Qik cs[k].2 (Sort.grow (redrawn (wr.alloc (.cells #[.string cs[k].1,.int .i64 cs[k].2] 56)) d) os)))
   have B:∀d os,_:=fun d os=>Calls.regrown_of (Qij b o k c (cs.take k) cs[k].1 (Sort.grow (redrawn (wr.alloc (.cells #[.string cs[k].1,.int .i64 cs[k].2] 56)) d) os) Z.out (by omega) (by simp[Sort.grow,redrawn];omega) ((T.below (Qab _ _) U).below (below_regrown _ _ _) (by simp;omega)))
   cases g1:Qd9 cs[k].1.data.toList
   ·simp only[g1] at A
    go_wp2
    refine wp_region_quiet_below (by kernel_rfl) (by kernel_rfl) ?_
    repeat(any_goals(first|go_big_quiet_step (first|exact A _ _|exact z _ _|exact B _ _)|quiet_step (first|exact A _ _|exact z _ _|exact B _ _)))
    refine wpQuiet_nil ?_
    intro _ y
    obtain⟨⟨D,q⟩,j⟩:=y
    subst j
    go_wp2
    go_ret
    exact⟨Qal (by rw[I.out,F.out,J.out,g1];rfl),h.trans ((Qab _ _).mono h.size|>.trans ((below_regrown _ D q).mono (by simp;have:=h.size;omega)))⟩
   ·simp only[g1] at A
    cases g2:Qfz cs[k].2
    ·simp only[g2] at z
     go_wp2
     refine wp_region_quiet_below (by kernel_rfl) (by kernel_rfl) ?_
     repeat(any_goals(first|go_big_quiet_step (first|exact A _ _|exact z _ _|exact B _ _)|quiet_step (first|exact A _ _|exact z _ _|exact B _ _)))
     refine wpQuiet_nil ?_
     intro _ y
     obtain⟨⟨D,q⟩,j⟩:=y
     subst j
     go_wp2
     go_ret
     exact⟨Qal (by rw[I.out,F.out,J.out,g1,g2];rfl),h.trans ((Qab _ _).mono h.size|>.trans ((below_regrown _ D q).mono (by simp;have:=h.size;omega)))⟩
    ·simp only[g2] at z
     have ah:(k:Int)<=(c:Int):=by omega
     cases g3:Qbw (cs.take k) cs[k].1.data.toList
     all_goals simp only[g3] at B
     all_goals
      go_wp2
      refine wp_region_quiet_below (by kernel_rfl) (by kernel_rfl) ?_
      repeat(any_goals(first|go_big_quiet_step (first|exact A _ _|exact z _ _|exact B _ _)|quiet_step (first|exact A _ _|exact z _ _|exact B _ _)))
      refine wpQuiet_nil ?_
      intro _ y
      obtain⟨⟨D,q⟩,j⟩:=y
      subst j
     ·go_wp2
      go_roundw
      case rel=>exact⟨k+1,by omega,by go_num,by rw[F.out,J.out,g1,g2,g3];rfl,h.trans ((Qab _ _).mono h.size|>.trans ((below_regrown _ D q).mono (by simp;have:=h.size;omega)))⟩
      case measure=>simp[intOf];omega
     ·go_wp2
      go_ret
      exact⟨Qal (by rw[I.out,F.out,J.out,g1,g2,g3];rfl),h.trans ((Qab _ _).mono h.size|>.trans ((below_regrown _ D q).mono (by simp;have:=h.size;omega)))⟩
  ·go_wp2
   go_ret
   exact⟨Qal (by rw[I.out,F.out,List.drop_eq_nil_of_le (by have:=V.out;omega)];rfl),h⟩
abbrev Vl:=Int×Int×ByteArray
abbrev Cl:=ByteArray×Int
def QaK (w:World) (b o:Nat) (vs:List Vl):Prop:=
 ∀(j:Nat) (h:j<vs.length),w.cell? ⟨b,o+j*3,none⟩=some (.int .i64 vs[j].1)/\w.cell? ⟨b,o+j*3+1,none⟩=some (.int .i64 vs[j].2.1)/\w.cell? ⟨b,o+j*3+2,none⟩=some (.string vs[j].2.2)
theorem QaK.below {w A:World} {B b o:Nat} {z:List Vl} (h:QaK w b o z) (q:Below B w A) (y:b<B):QaK A b o z:=
 fun j hj=>⟨(q.cell (p:=⟨b,o+j*3,none⟩) y).trans (h j hj).1,(q.cell (p:=⟨b,o+j*3+1,none⟩) y).trans (h j hj).2.1,(q.cell (p:=⟨b,o+j*3+2,none⟩) y).trans (h j hj).2.2⟩
def Qav (w:World) (v:Value) (cs:List Cl):Prop:=
 ∃a c,v=.slice a cs.length c/\cs.length<=c/\(∀x∈cs,x.1.size<=maxLen)/\(cs=[]\/∃b o,a=some ⟨b,o,none⟩/\b<w.heap.size/\Qas w b o cs)
def Qbk (w:World) (v:Value) (vs:List Vl):Prop:=
 ∃a c,v=.slice a vs.length c/\(∀x∈vs,x.2.2.size<=maxLen)/\(vs=[]\/∃b o,a=some ⟨b,o,none⟩/\b<w.heap.size/\QaK w b o vs)
def Qdm (w:World) (b o:Nat) (rs:List (List Vl)):Prop:=∀(j:Nat) (h:j<rs.length),∃u,w.cell? ⟨b,o+j,none⟩=some u/\Qbk w u rs[j]
def QaC (w:World) (v:Value) (rs:List (List Vl)):Prop:=
 ∃a c,v=.slice a rs.length c/\(rs=[]\/∃b o,a=some ⟨b,o,none⟩/\b<w.heap.size/\Qdm w b o rs)
theorem Qav.below {w y:World} {v:Value} {cs:List Cl} (h:Qav w v cs) (j:Below w.heap.size w y):Qav y v cs:=by
 obtain⟨a,c,e,D,A,h⟩:=h
 refine⟨a,c,e,D,A,?_⟩
 rcases h with h|⟨b,o,B,q,z⟩
 ·exact Or.inl h
 ·exact Or.inr ⟨b,o,B,Nat.lt_of_lt_of_le q j.size,z.below j q⟩
theorem Qbk.below {w z:World} {v:Value} {j:List Vl} (h:Qbk w v j) (q:Below w.heap.size w z):Qbk z v j:=by
 obtain⟨a,c,e,B,h⟩:=h
 refine⟨a,c,e,B,?_⟩
 rcases h with h|⟨b,o,D,y,A⟩
 ·exact Or.inl h
 ·exact Or.inr ⟨b,o,D,Nat.lt_of_lt_of_le y q.size,A.below q y⟩
theorem Qdm.below {w y:World} {b o:Nat} {rs:List (List Vl)} (h:Qdm w b o rs) (q:Below w.heap.size w y) (z:b<w.heap.size):Qdm y b o rs:=fun j hj=>by
 obtain⟨u,A,B⟩:=h j hj
 exact⟨u,cK q z A,B.below q⟩
theorem QaC.below {w y:World} {v:Value} {rs:List (List Vl)} (h:QaC w v rs) (j:Below w.heap.size w y):QaC y v rs:=by
 obtain⟨a,c,e,h⟩:=h
 refine⟨a,c,e,?_⟩
 rcases h with h|⟨b,o,A,q,z⟩
 ·exact Or.inl h
 ·exact Or.inr ⟨b,o,A,Nat.lt_of_lt_of_le q j.size,z.below j q⟩
theorem Qdn (v:Value) (cs:List Cl) (w:World) (h:Qav w v cs):
 Calls Tryz.prog 61 #[v] w fun e w'=>e=.returned (.bool (Qah cs))/\Below w.heap.size w w':=by
 obtain⟨a,c,rfl,B,q,h⟩:=h
 by_cases h1:1<=cs.length
 ·by_cases h6:cs.length<=6
  ·rcases h with h|⟨b,o,rfl,A,z⟩
   ·rw[h] at h1;simp at h1
   ·exact Qgc b o cs.length c cs w rfl h1 h6 B A z q
  ·have j:Qah cs=false:=by simp[Qah,h6]
   rw[j]
   clear j h q
   generalize cs.length=n at*
   have D:((n:Int)==0)=false:=by simp;omega
   go_enter Tryz.func61,Tryz.ntmps61
   go_wp2
   go_ret
   exact⟨rfl,Below.refl _ _⟩
 ·have j:Qah cs=false:=by simp[Qah,h1]
  have y:cs.length=0:=by omega
  rw[j,y]
  clear j h q y
  go_enter Tryz.func61,Tryz.ntmps61
  go_wp2
  go_ret
  exact⟨rfl,Below.refl _ _⟩
def rvB (x:Vl):Bool:=Qat x.1 x.2.1 x.2.2.data.toList
def Qbm:List Vl->List Cl->Bool
 |[],[]=>true
 |v::r,c::q=>v.1==c.2&&(rvB v&&Qbm r q)
 |_,_=>false
theorem Qc2:∀(j:List Vl) (cs:List Cl),j.length≠cs.length->Qbm j cs=false
 |[],[],h=>absurd rfl h
 |[],_::_,_=>rfl
 |_::_,[],_=>rfl
 |v::r,c::q,h=>by
  rw[Qbm,Qc2 r q (by simpa using h)];simp
theorem Qe4 (j:List Vl) (cs:List Cl) (k:Nat) (h:k<j.length) (o:k<cs.length):Qbm (j.drop k) (cs.drop k)=(j[k].1==cs[k].2&&(rvB j[k]&&Qbm (j.drop (k+1)) (cs.drop (k+1)))):=by
 rw[List.drop_eq_getElem_cons h,List.drop_eq_getElem_cons o];rfl
theorem QfA (x:Vl) (w:World) (h:x.2.2.size<=maxLen):
 Calls Tryz.prog 90 #[.agg #[.int .i64 x.1,.int .i64 x.2.1,.string x.2.2]] w fun e w'=>e=.returned (.bool (rvB x))/\Below w.heap.size w w':=Qc9 _ _ _ _ h
theorem QfB (a o:Option Addr) (n c j q:Nat) (w:World) (h:n≠j):
 Calls Tryz.prog 62 #[.slice a n c,.slice o j q] w fun e w'=>e=.returned (.bool false)/\Below w.heap.size w w':=by
 have y:((n:Int) != (j:Int))=true:=by simp;omega
 go_enter Tryz.func62,Tryz.ntmps62
 go_wp2
 go_ret
 exact⟨rfl,Below.refl _ _⟩
theorem Qg4 (b o c z F c' n:Nat) (h:List Vl) (cs:List Cl) (w:World) (T:h.length=n) (K:cs.length=n) (h6:n<=100) (O:b<w.heap.size) (V:z<w.heap.size) (hv:QaK w b o h) (hc:Qas w z F cs) (hs:∀x∈h,x.2.2.size<=maxLen):
 Calls Tryz.prog 62 #[.slice (some ⟨b,o,none⟩) n c,.slice (some ⟨z,F,none⟩) n c'] w fun e w'=>e=.returned (.bool (Qbm h cs))/\Below w.heap.size w w':=by
 have U:=Hk T
 have HN':=Hk K
 clear T K
 go_enter Tryz.func62,Tryz.ntmps62
 go_wp2
 go_loopw [14] (fun i wr=>∃k:Nat,k<=n/\i=.int .i64 k/\Qbm h cs=Qbm (h.drop k) (cs.drop k)/\Below w.heap.size w wr) (fun i _=>n-(intOf i).toNat)
 case atStart=>exact⟨0,Nat.zero_le _,rfl,rfl,Below.refl _ _⟩
 case round=>
  obtain⟨k,hk,rfl,J,j⟩:=hrel
  have E:=Hk J
  clear J
  by_cases hlt:k<n
  ·have A:k<h.length:=by have:=U.out;omega
   have M:k<cs.length:=by have:=HN'.out;omega
   obtain⟨c1,c2,c3⟩:=hv k A
   have d1:=cK j O c1
   have d2:=cK j O c2
   have d3:=cK j O c3
   obtain⟨_,c5⟩:=hc k M
   have d5:=cK j V c5
   clear c1 c2 c3 c5
   have hbr':z<wr.heap.size:=by have:=j.size;omega
   have Z:h[k].2.2.size<=maxLen:=hs _ (List.getElem_mem A)
   have N:=Hk (Qe4 h cs k A M)
   have k1:=cell_regrown (w:=wr.alloc (.cells #[.int .i64 h[k].1,.int .i64 h[k].2.1,.string h[k].2.2] 24)) (a:=⟨wr.heap.size,0,none⟩) (v:=.int .i64 h[k].1) (by simp)
   have k2:=cell_regrown (w:=wr.alloc (.cells #[.int .i64 h[k].1,.int .i64 h[k].2.1,.string h[k].2.2] 24)) (a:=⟨wr.heap.size,1,none⟩) (v:=.int .i64 h[k].2.1) (by simp)
   have k3:=cell_regrown (w:=wr.alloc (.cells #[.int .i64 h[k].1,.int .i64 h[k].2.1,.string h[k].2.2] 24)) (a:=⟨wr.heap.size,2,none⟩) (v:=.string h[k].2.2) (by simp)
   have k5:=cell_regrown (w:=wr.alloc (.cells #[.int .i64 h[k].1,.int .i64 h[k].2.1,.string h[k].2.2] 24)) (a:=⟨z,F+k*2+1,none⟩) (v:=.int .i64 cs[k].2) (by rw[World.cell?_alloc_past _ _ _ hbr'];exact d5)
   have B:∀d os,_:=fun d os=>Calls.regrown_of (QfA h[k] (Sort.grow (redrawn (wr.alloc (.cells #[.int .i64 h[k].1,.int .i64 h[k].2.1,.string h[k].2.2] 24)) d) os) Z)
   cases g1:(h[k].1 != cs[k].2)
   ·cases g2:rvB h[k]
    all_goals simp only[g2] at B
    all_goals
     go_wp2
     refine wp_region_quiet_below (by kernel_rfl) (by kernel_rfl) ?_
     repeat(any_goals(first|go_big_quiet_step (exact B _ _)|quiet_step (exact B _ _)))
     refine wpQuiet_nil ?_
     intro _ D
     obtain⟨⟨I,y⟩,q⟩:=D
     subst q
    ·go_wp2
     go_ret
     exact⟨Qal (by rw[E.out,N.out,g2];simp),j.trans ((Qab _ _).mono j.size|>.trans ((below_regrown _ I y).mono (by simp;have:=j.size;omega)))⟩
    ·go_wp2
     go_roundw
     case rel=>exact⟨k+1,by omega,by go_num,by rw[E.out,N.out,g2];simp only[bne_eq_false_iff_eq] at g1;rw[g1];simp,j.trans ((Qab _ _).mono j.size|>.trans ((below_regrown _ I y).mono (by simp;have:=j.size;omega)))⟩
     case measure=>simp[intOf];omega
   ·go_wp2
    refine wp_region_quiet_below (by kernel_rfl) (by kernel_rfl) ?_
    repeat(any_goals(first|go_big_quiet_step (exact B _ _)|quiet_step (exact B _ _)))
    refine wpQuiet_nil ?_
    intro _ D
    obtain⟨⟨I,y⟩,q⟩:=D
    subst q
    go_wp2
    go_ret
    exact⟨Qal (by rw[E.out,N.out];simp only[bne_iff_ne] at g1;simp[g1]),j.trans ((Qab _ _).mono j.size|>.trans ((below_regrown _ I y).mono (by simp;have:=j.size;omega)))⟩
  ·go_wp2
   go_ret
   exact⟨Qal (by rw[E.out,List.drop_eq_nil_of_le (by have:=U.out;omega),List.drop_eq_nil_of_le (by have:=HN'.out;omega)];rfl),j⟩
end Go.Proofs.YtofidnijfnhpaaaGreatDoor
