/-
  The library's strings.Builder, strconv.Itoa: contracts laid at this dump.
-/
import Derived.Shelf.Strings.Builder1
import Derived.Test.YtkcmamepoplcdaaGreatDoorXad
import Derived.Shelf.Small.Wraps
import Derived.Shelf.Strconv.AtoiAll
import Derived.Shelf.Strconv.ErrVarAll
import Derived.Laws.MakeOwn
set_option maxHeartbeats 4000000
set_option maxRecDepth 100000
namespace Go.Proofs.YtkcmamepoplcdaaGreatDoor
open Go.Shelf Go.RowKit
set_option linter.unusedVariables false
def rJ:Go.Shelf.Ren:=⟨fun|0=>0|1=>1|2=>2|103=>203|122=>176|125=>210|128=>225|129=>166|138=>162|143=>97|145=>36|147=>98|156=>52|165=>84|166=>85|167=>128|169=>86|170=>129|171=>44|172=>159|195=>184|197=>180|205=>213|206=>228|210=>214|215=>194|217=>130|218=>185|219=>95|220=>65|221=>136|224=>132|225=>131|240=>122|241=>123|243=>76|244=>181|245=>182|246=>109|247=>198|260=>197|266=>155|267=>133|268=>161|276=>153|277=>154|279=>199|280=>200|281=>201|282=>202|283=>138|284=>139|285=>140|286=>141|287=>211|314=>156|316=>212|317=>165|318=>167|319=>168|320=>169|321=>226|322=>227|329=>230|330=>231|337=>187|338=>188|347=>235|348=>236|349=>237|350=>238|351=>239|352=>240|353=>241|354=>242|355=>243|356=>244|357=>245|358=>246|359=>247|360=>248|361=>249|362=>250|363=>253|364=>251|365=>252|366=>254|367=>265|n=>n,fun|0=>0|1=>1|2=>2|3=>3|4=>4|5=>5|6=>6|7=>7|8=>8|9=>9|10=>10|11=>11|12=>12|13=>13|14=>14|15=>15|16=>16|17=>17|18=>18|19=>19|20=>20|21=>21|22=>228|24=>199|25=>200|26=>115|27=>108|28=>70|31=>30|37=>35|38=>40|43=>104|46=>135|47=>177|51=>166|52=>189|53=>144|54=>145|55=>134|59=>53|60=>54|62=>109|67=>73|68=>47|69=>170|70=>92|71=>93|72=>94|73=>95|74=>96|75=>97|76=>98|77=>99|78=>133|80=>100|81=>72|83=>61|84=>116|85=>194|86=>195|101=>33|102=>32|103=>50|104=>29|105=>185|106=>186|108=>215|111=>130|113=>141|114=>49|119=>207|127=>129|128=>187|131=>222|137=>208|138=>209|139=>210|143=>225|144=>226|145=>227|146=>167|150=>172|151=>168|164=>163|165=>164|166=>165|167=>193|168=>196|169=>197|170=>198|171=>143|172=>146|173=>147|174=>148|175=>211|176=>212|182=>217|183=>218|209=>213|210=>214|211=>174|212=>175|213=>176|214=>224|218=>229|219=>230|220=>231|222=>233|228=>235|229=>106|232=>202|233=>203|238=>237|239=>238|240=>239|241=>240|242=>241|243=>242|244=>243|245=>244|246=>245|247=>246|248=>247|249=>248|n=>n,fun n=>n⟩
theorem PJ:Lays.n166 Tryz.prog rJ where
 mixed:=by kernel_rfl
 f166:=Tryz.func85.trans (congrArg some (by kernel_rfl))
 f240:=Tryz.func122.trans (congrArg some (by kernel_rfl))
 f276:=Tryz.func153.trans (congrArg some (by kernel_rfl))
 t0:=Tryz.underlying0
 a0:=Tryz.isAgg0
 z0:=Tryz.sizeOf0
 v0:=Tryz.zeroValue0
 t3:=Tryz.underlying3
 a3:=Tryz.isAgg3
 z3:=Tryz.sizeOf3
 v3:=Tryz.zeroValue3
 t4:=Tryz.underlying4
 a4:=Tryz.isAgg4
 z4:=Tryz.sizeOf4
 v4:=Tryz.zeroValue4
 t9:=Tryz.underlying9
 a9:=Tryz.isAgg9
 z9:=Tryz.sizeOf9
 v9:=Tryz.zeroValue9
 t20:=Tryz.underlying20
 a20:=Tryz.isAgg20
 z20:=Tryz.sizeOf20
 v20:=Tryz.zeroValue20
 t37:=Tryz.underlying35
 a37:=Tryz.isAgg35
 z37:=Tryz.sizeOf35
 v37:=Tryz.zeroValue35
 t70:=Tryz.underlying92
 a70:=Tryz.isAgg92
 z70:=Tryz.sizeOf92
 v70:=Tryz.zeroValue92
 t72:=Tryz.underlying94
 a72:=Tryz.isAgg94
 z72:=Tryz.sizeOf94
 v72:=Tryz.zeroValue94
 t75:=Tryz.underlying97
 a75:=Tryz.isAgg97
 z75:=Tryz.sizeOf97
 v75:=Tryz.zeroValue97
 t164:=Tryz.underlying163
 a164:=Tryz.isAgg163
 z164:=Tryz.sizeOf163
 v164:=Tryz.zeroValue163
theorem FV:Builder.Extra Tryz.prog rJ where
 sizeBuilder:=by kernel_rfl
 liesBuilder:=by kernel_rfl
 t5:=Tryz.underlying5
 a5:=Tryz.isAgg5
 z5:=Tryz.sizeOf5
 v5:=Tryz.zeroValue5
 infoByte:=by kernel_rfl
 cellsByte:=by kernel_rfl
 sizeByte:=by kernel_rfl
 neB5:=by decide
theorem uY (B b:Nat) (bs:List Value) (s:ByteArray) (w:World) (h:Lib.IsBuilder 94 5 B b bs w) (hlen:bs.length+s.size≤140737488355328) (hBw:B≤w.heap.size):
 Calls Tryz.prog 85 #[.pointer (some ⟨b,0,none⟩),.string s] w fun e w'=>e= .returned (.tuple #[.int .i64 s.size,.nilIface])∧(Lib.BuilderAt 94 5 B b (.pointer (some ⟨b,0,none⟩)) (bs++Lib.strCells s) w'∧Below B w w'):=Any.Builder_WriteString PJ FV B b bs s w h hlen hBw
def rK:Go.Shelf.Ren:=⟨fun|0=>0|1=>1|2=>2|103=>203|122=>176|125=>210|128=>225|129=>166|138=>162|143=>97|145=>36|147=>98|156=>52|165=>84|166=>85|167=>128|169=>86|170=>129|171=>44|172=>159|195=>184|197=>180|205=>213|206=>228|210=>214|215=>194|217=>130|218=>185|219=>95|220=>65|221=>136|224=>132|225=>131|240=>122|241=>123|243=>76|244=>181|245=>182|246=>109|247=>198|260=>197|266=>155|267=>133|268=>161|276=>153|277=>154|279=>199|280=>200|281=>201|282=>202|283=>138|284=>139|285=>140|286=>141|287=>211|314=>156|316=>212|317=>165|318=>167|319=>168|320=>169|321=>226|322=>227|329=>230|330=>231|337=>187|338=>188|347=>235|348=>236|349=>237|350=>238|351=>239|352=>240|353=>241|354=>242|355=>243|356=>244|357=>245|358=>246|359=>247|360=>248|361=>249|362=>250|363=>253|364=>251|365=>252|366=>254|367=>265|n=>n,fun|0=>0|1=>1|2=>2|3=>3|4=>4|5=>5|6=>6|7=>7|8=>8|9=>9|10=>10|11=>11|12=>12|13=>13|14=>14|15=>15|16=>16|17=>17|18=>18|19=>19|20=>20|21=>21|22=>228|24=>199|25=>200|26=>115|27=>108|28=>70|31=>30|37=>35|38=>40|43=>104|46=>135|47=>177|51=>166|52=>189|53=>144|54=>145|55=>134|59=>53|60=>54|62=>109|67=>73|68=>47|69=>170|70=>92|71=>93|72=>94|73=>95|74=>96|75=>97|76=>98|77=>99|78=>133|80=>100|81=>72|83=>61|84=>116|85=>194|86=>195|101=>33|102=>32|103=>50|104=>29|105=>185|106=>186|108=>215|111=>130|113=>141|114=>49|119=>207|127=>129|128=>187|131=>222|137=>208|138=>209|139=>210|143=>225|144=>226|145=>227|146=>167|150=>172|151=>168|164=>163|165=>164|166=>165|167=>193|168=>196|169=>197|170=>198|171=>143|172=>146|173=>147|174=>148|175=>211|176=>212|182=>217|183=>218|209=>213|210=>214|211=>174|212=>175|213=>176|214=>224|218=>229|219=>230|220=>231|222=>233|228=>235|229=>106|232=>202|233=>203|238=>237|239=>238|240=>239|241=>240|242=>241|243=>242|244=>243|245=>244|246=>245|247=>246|248=>247|249=>248|n=>n,fun n=>n⟩
theorem PK:Lays.n167 Tryz.prog rK where
 mixed:=by kernel_rfl
 f167:=Tryz.func128.trans (congrArg some (by kernel_rfl))
 f240:=Tryz.func122.trans (congrArg some (by kernel_rfl))
 f276:=Tryz.func153.trans (congrArg some (by kernel_rfl))
 t0:=Tryz.underlying0
 a0:=Tryz.isAgg0
 z0:=Tryz.sizeOf0
 v0:=Tryz.zeroValue0
 t4:=Tryz.underlying4
 a4:=Tryz.isAgg4
 z4:=Tryz.sizeOf4
 v4:=Tryz.zeroValue4
 t5:=Tryz.underlying5
 a5:=Tryz.isAgg5
 z5:=Tryz.sizeOf5
 v5:=Tryz.zeroValue5
 t9:=Tryz.underlying9
 a9:=Tryz.isAgg9
 z9:=Tryz.sizeOf9
 v9:=Tryz.zeroValue9
 t20:=Tryz.underlying20
 a20:=Tryz.isAgg20
 z20:=Tryz.sizeOf20
 v20:=Tryz.zeroValue20
 t37:=Tryz.underlying35
 a37:=Tryz.isAgg35
 z37:=Tryz.sizeOf35
 v37:=Tryz.zeroValue35
 t70:=Tryz.underlying92
 a70:=Tryz.isAgg92
 z70:=Tryz.sizeOf92
 v70:=Tryz.zeroValue92
 t72:=Tryz.underlying94
 a72:=Tryz.isAgg94
 z72:=Tryz.sizeOf94
 v72:=Tryz.zeroValue94
 t75:=Tryz.underlying97
 a75:=Tryz.isAgg97
 z75:=Tryz.sizeOf97
 v75:=Tryz.zeroValue97
 t164:=Tryz.underlying163
 a164:=Tryz.isAgg163
 z164:=Tryz.sizeOf163
 v164:=Tryz.zeroValue163
theorem FW:Builder.Extra Tryz.prog rK where
 sizeBuilder:=by kernel_rfl
 liesBuilder:=by kernel_rfl
 t5:=Tryz.underlying5
 a5:=Tryz.isAgg5
 z5:=Tryz.sizeOf5
 v5:=Tryz.zeroValue5
 infoByte:=by kernel_rfl
 cellsByte:=by kernel_rfl
 sizeByte:=by kernel_rfl
 neB5:=by decide
theorem zK (B b:Nat) (bs:List Value) (c:Int) (w:World) (h:Lib.IsBuilder 94 5 B b bs w) (hlen:bs.length+1≤140737488355328) (hBw:B≤w.heap.size):
 Calls Tryz.prog 128 #[.pointer (some ⟨b,0,none⟩),.int .u8 c] w fun e w'=>e= .returned .nilIface∧(Lib.BuilderAt 94 5 B b (.pointer (some ⟨b,0,none⟩)) (bs++[.int .u8 c]) w'∧Below B w w'):=Any.Builder_WriteByte PK FW B b bs c w h hlen hBw
shelf_lay Lays.n169 Nm 169 at Tryz as lay169
theorem FX:Builder.Extra Tryz.prog lay169_ren where
 sizeBuilder:=by kernel_rfl
 liesBuilder:=by kernel_rfl
 t5:=Tryz.underlying5
 a5:=Tryz.isAgg5
 z5:=Tryz.sizeOf5
 v5:=Tryz.zeroValue5
 infoByte:=by kernel_rfl
 cellsByte:=by kernel_rfl
 sizeByte:=by kernel_rfl
 neB5:=by decide
theorem KS (B b:Nat) (l:List UInt8) (w:World) (h:Lib.IsBuilder 94 5 B b (Lib.byteCells l) w) (hBw:B≤w.heap.size):
 Calls Tryz.prog 86 #[.pointer (some ⟨b,0,none⟩)] w fun e w'=>e= .returned (.string ⟨l.toArray⟩)∧Below B w w':=Any.Builder_String_any lay169 FX B b l w h hBw
shelf_lay Lays.n170 Nm 170 at Tryz as lay170
theorem SK (B b:Nat) (bs:List Value) (w:World) (h:Lib.IsBuilder 94 5 B b bs w):
 Calls Tryz.prog 129 #[.pointer (some ⟨b,0,none⟩)] w fun e w'=>e= .returned (.int .i64 bs.length)∧w'=w:=Any.Builder_Len lay170 B b bs w h
shelf_lay Lays.n171 Nm 171 at Tryz as lay171
theorem vI (i:Nat) (hi:i<100) (w:World):
 Calls Tryz.prog 44 #[.int .i64 i] w fun e w'=>e= .returned (.string ⟨(Lib.decDigits i).toArray⟩)∧w'=w:=Any.strconv_Itoa_small lay171 i hi w
end Go.Proofs.YtkcmamepoplcdaaGreatDoor
namespace Go.Proofs.YtkcmamepoplcdaaGreatDoor
open Go.RowKit
set_option linter.unusedVariables false
set_option linter.unusedSimpArgs false
theorem KT (l:List UInt8) (c:UInt8):Lib.byteCells l++[.int .u8 (c.toNat:Int)]=Lib.byteCells (l++[c]):=by rw[Lib.byteCells_append];rfl
theorem OP (l:List UInt8) (s:List UInt8):Lib.byteCells l++Lib.strCells ⟨s.toArray⟩=Lib.byteCells (l++s):=by rw[Lib.strCells_eq,Lib.byteCells_append]
theorem FK {B b:Nat} {l:List UInt8} {c:UInt8} {w:World} (h:Lib.BuilderAt 94 5 B b (.pointer (some ⟨b,0,none⟩)) (Lib.byteCells l++[.int .u8 (c.toNat:Int)]) w):Lib.IsBuilder 94 5 B b (Lib.byteCells (l++[c])) w:=by rw[KT]at h;exact .inr h
theorem KU {B b:Nat} {l s:List UInt8} {w:World} (h:Lib.BuilderAt 94 5 B b (.pointer (some ⟨b,0,none⟩)) (Lib.byteCells l++Lib.strCells ⟨s.toArray⟩) w):Lib.IsBuilder 94 5 B b (Lib.byteCells (l++s)) w:=by rw[OP]at h;exact .inr h
theorem CV {w w':World} (h:Below (w.alloc (.cells #[.pointer none,.slice none 0 0] 94)).heap.size (w.alloc (.cells #[.pointer none,.slice none 0 0] 94)) w'):Lib.IsBuilder 94 5 w.heap.size w.heap.size (Lib.byteCells []) w':=
 .inl ⟨Nat.le_refl _,.slice none 0 0,(h.block w.heap.size (by simp)).trans (Go.heap_alloc_new w _),World.ownsRow_nil _ _ _ _,by simp[Value.ownBlock]⟩
def KC (B:Nat) (w:World) (l:List UInt8) (wr:World):Prop:=Lib.IsBuilder 94 5 B B (Lib.byteCells l) wr∧Below B w wr
theorem KC.size {B:Nat} {w wr:World} {l:List UInt8} (h:KC B w l wr) (hB:B≤w.heap.size):B≤wr.heap.size:=jW hB h.2.size
theorem KC.byte {B:Nat} {w wr:World} {l:List UInt8} (h:KC B w l wr) (hB:B≤w.heap.size) (hl:l.length≤100) (c:UInt8):Calls Tryz.prog 128 #[.pointer (some ⟨B,0,none⟩),.int .u8 (c.toNat:Int)] wr fun e w'=>e= .returned .nilIface∧KC B w (l++[c]) w':=
 (zK B B _ _ wr h.1 (by rw[Lib.byteCells_length];omega) (h.size hB)).mono fun e w' ⟨he,h1,h2⟩=>⟨he,FK h1,h.2.trans h2⟩
theorem KC.str  {B:Nat} {w wr:World} {l:List UInt8} (h:KC  B w l wr) (hB:B≤w.heap.size) (hl:l.length≤100) (s:List UInt8) (hs:s.length≤100):Calls Tryz.prog 85 #[.pointer (some ⟨B,0,none⟩),.string ⟨s.toArray⟩] wr fun e w'=>(∃v,e= .returned v)∧KC  B w (l++s) w':=
 (uY           B B _ _ wr h.1 (by
  rw[Lib.byteCells_length];have:(⟨s.toArray⟩:ByteArray).size=s.length:=by simp[ByteArray.size]
  omega) (h.size hB)).mono fun e w' ⟨he,h1,h2⟩=>⟨⟨_,he⟩,KU      h1,h.2.trans h2⟩
theorem yH (x y d e:Int) (w:World):Calls Tryz.prog 93 #[.agg #[.int .i64 x,.int .i64 y,.int .i64 d,.int .i64 e]] w fun r w'=>r= .returned (.string ⟨(eN ⟨x,y,d,e⟩).toArray⟩)∧Below w.heap.size w w':=by
 obtain⟨ok,hok⟩:∃b,M.ok ⟨x,y,d,e⟩=b:=⟨_,rfl⟩
 have HOK:=aA hok;clear hok;cases ok
 ·have he:=vL HOK.out;have HE:=aA he
  clear he;go_enter Tryz.func93,Tryz.ntmps93;go_wp2_with fail;refine(tZ HOK.out _).mono ?_;rintro r w1 ⟨rfl,hb⟩;go_wp2;go_ret;exact⟨by rw[HE.out];rfl,aC (aF w _) hb⟩
 ·obtain⟨x1,x2,y1,y2,d1,d2,e1,e2⟩:=M.ok_iff.1 HOK.out;simp only at x1 x2 y1 y2 d1 d2 e1 e2;have i0:∀w:World,(Instr.index 131 (.agg #[.int .i64 x,.int .i64 y,.int .i64 d,.int .i64 e]) (.int .i64 0)).run Tryz.prog w= .ok (.int .i64 x) w:=fun _=>by kernel_rfl
  have i1:∀w:World,(Instr.index 131 (.agg #[.int .i64 x,.int .i64 y,.int .i64 d,.int .i64 e]) (.int .i64 1)).run Tryz.prog w= .ok (.int .i64 y) w:=fun _=>by kernel_rfl
  have i2:∀w:World,(Instr.index 131 (.agg #[.int .i64 x,.int .i64 y,.int .i64 d,.int .i64 e]) (.int .i64 2)).run Tryz.prog w= .ok (.int .i64 d) w:=fun _=>by kernel_rfl
  have i3:∀w:World,(Instr.index 131 (.agg #[.int .i64 x,.int .i64 y,.int .i64 d,.int .i64 e]) (.int .i64 3)).run Tryz.prog w= .ok (.int .i64 e) w:=fun _=>by kernel_rfl
  have j0:∀w:World,(Instr.index 9 (.string ⟨#[120,121,100,101]⟩) (.int .i64 0)).run Tryz.prog w= .ok (.int .u8 ((120:UInt8).toNat:Int)) w:=fun _=>by kernel_rfl
  have j1:∀w:World,(Instr.index 9 (.string ⟨#[120,121,100,101]⟩) (.int .i64 1)).run Tryz.prog w= .ok (.int .u8 ((121:UInt8).toNat:Int)) w:=fun _=>by kernel_rfl
  have j2:∀w:World,(Instr.index 9 (.string ⟨#[120,121,100,101]⟩) (.int .i64 2)).run Tryz.prog w= .ok (.int .u8 ((100:UInt8).toNat:Int)) w:=fun _=>by kernel_rfl
  have j3:∀w:World,(Instr.index 9 (.string ⟨#[120,121,100,101]⟩) (.int .i64 3)).run Tryz.prog w= .ok (.int .u8 ((101:UInt8).toNat:Int)) w:=fun _=>by kernel_rfl
  have HLEN:=aA (sF HOK.out);have HT:=aA (show ∀k,mV ⟨x,y,d,e⟩ (k+1)=mV ⟨x,y,d,e⟩ k++cR (GT k) (tJ x y d e k)from fun k=>rfl)
  have HS4:=aA (show mV ⟨x,y,d,e⟩ 4=cX ⟨x,y,d,e⟩from rfl);have HS0:=aA (show mV ⟨x,y,d,e⟩ 0=[]from rfl)
  obtain⟨sR,hRes⟩:∃R,eN ⟨x,y,d,e⟩=R:=⟨_,rfl⟩
  rw[hRes];have HR1:=aA (jQ (m:=⟨x,y,d,e⟩) HOK.out)
  have HR2:=aA (fJ (m:=⟨x,y,d,e⟩) HOK.out);rw[hRes]at HR1 HR2;clear hRes;obtain⟨tx,htx⟩:∃f,mV ⟨x,y,d,e⟩=f:=⟨_,rfl⟩
  obtain⟨mS,hmS⟩:∃f,cX ⟨x,y,d,e⟩=f:=⟨_,rfl⟩
  rw[htx]at HLEN HT HS4 HS0;rw[hmS]at HS4 HR1 HR2;clear htx hmS;go_enter Tryz.func93,Tryz.ntmps93;go_wp2_with fail;refine(tZ HOK.out _).mono ?_;rintro r w1 ⟨rfl,hb⟩;have hb1:=aC (aF w (.cells #[.int .i64 x,.int .i64 y,.int .i64 d,.int .i64 e] 77)) hb
  have HB1:=aA hb1;have c0:w1.cell? ⟨w.heap.size,0,none⟩=some (.int .i64 x):=(hb.cell (p:=⟨w.heap.size,0,none⟩) (by simp)).trans (by rw[World.cell?_alloc_at _ _ _ _ rfl];rfl)
  have c1:w1.cell? ⟨w.heap.size,1,none⟩=some (.int .i64 y):=(hb.cell (p:=⟨w.heap.size,1,none⟩) (by simp)).trans (by rw[World.cell?_alloc_at _ _ _ _ rfl];rfl);have c2:w1.cell? ⟨w.heap.size,2,none⟩=some (.int .i64 d):=(hb.cell (p:=⟨w.heap.size,2,none⟩) (by simp)).trans (by rw[World.cell?_alloc_at _ _ _ _ rfl];rfl)
  have c3:w1.cell? ⟨w.heap.size,3,none⟩=some (.int .i64 e):=(hb.cell (p:=⟨w.heap.size,3,none⟩) (by simp)).trans (by rw[World.cell?_alloc_at _ _ _ _ rfl];rfl);have hws:w.heap.size<w1.heap.size:=eB (by simp) hb.size
  clear hb hb1;go_wp2_with fail;refine(AQ x y d e _).mono ?_;rintro r w2 ⟨rfl,hb2⟩;have HF0:Hid (KC w1.heap.size w1 (tx 0) w2):=by rw[HS0.out];exact⟨CV hb2,Below.trans ((aD _ w1).alloc (Nat.le_refl _) _) (hb2.mono (by simp))⟩
  clear hb2 c0 c1 c2 c3;obtain⟨B,hB⟩:∃B,w1.heap.size=B:=⟨_,rfl⟩
  rw[hB]at HF0;have hBw:B≤w1.heap.size:=by omega
  have hwB:w.heap.size≤B:=by omega
  simp only[hB];clear hB;go_wp2;go_loopw [11] (fun v wr=>∃k:Nat,k≤4∧v= .int .i64 (k:Int)∧Hid (KC B w1 (tx k) wr)) (fun v _=>4-(intOf v).toNat);case atStart=>exact⟨0,by omega,rfl,HF0⟩
  case round=>
   obtain⟨k,hk,rfl,HF⟩:=hrel;by_cases hk4:k=4
   ·subst hk4;rw[HS4.out]at HF;have hl12:mS.length≤12:=by rw[←HS4.out];exact HLEN.out 4
    go_wp2_with fail;refine(SK B B _ _ HF.out.1).mono ?_;rw[Lib.byteCells_length];rintro r w9 ⟨rfl,hw9⟩;obtain rfl:=hw9.symm;clear hw9;by_cases h0:mS=[]
    ·have hl0:mS.length=0:=by rw[h0];rfl
     have hR:=HR1.out h0;have HR:=aA hR
     clear hR h0;rw[hl0];go_wp2;go_ret;exact⟨by rw[HR.out];rfl,HB1.out.trans (HF.out.2.mono (by omega))⟩
    ·have hl0:((mS.length:Int)==0)=false:=beq_eq_false_iff_ne.2 (fun h=>h0 (List.length_eq_zero_iff.1 (by omega)));have hR:=HR2.out h0
     have HR:=aA hR;clear hR h0;go_wp2_with fail;refine(KS B B mS _ HF.out.1 (HF.out.size hBw)).mono ?_;rintro r w8 ⟨rfl,hb8⟩;go_wp2;go_ret;exact⟨by rw[HR.out];rfl,HB1.out.trans ((HF.out.2.trans hb8).mono (by omega))⟩
   ·have hkl:(k:Int)<4:=by omega
    have hlk:(tx k).length≤12:=by have:=HLEN.out k;omega
    have key:∀(c:UInt8) (n:Int),GT k=c→tJ x y d e k=n→Hid (tx (k+1)=tx k++cR c n):=fun c n h1 h2=>by rw[HT.out,h1,h2];exact aA rfl
    rcases(show k=0∨k=1∨k=2∨k=3 by omega)with rfl|rfl|rfl|rfl
    ·have HK:=key 120 x rfl rfl;clear key;by_cases h0:x=0
     ·subst h0;have hq:tx 1=tx 0:=by rw[HK.out];exact List.append_nil _
      have HQ:=aA hq;clear hq;go_wp2;go_roundw;case rel=>exact⟨1,by omega,by go_num,by rw[HQ.out];exact HF⟩
      case measure=>simp[intOf]
     ·by_cases h1:x=1
      ·subst h1;go_wp2_with fail;refine(HF.out.byte hBw (by omega) 120).mono ?_;rintro r w3 ⟨rfl,hF3⟩;have HF3:=aA hF3
       clear hF3;have hq:tx 1=tx 0++[120]:=HK.out
       have HQ:=aA hq;clear hq;go_wp2;go_roundw;case rel=>exact⟨1,by omega,by go_num,by rw[HQ.out];exact HF3⟩
       case measure=>simp[intOf]
      ·obtain⟨n,rfl⟩:∃n:Nat,x=(n:Int):=⟨x.toNat,by omega⟩
       have hn0:(0:Int)<(n:Int):=by omega
       have hn1:(1:Int)<(n:Int):=by omega
       have hq:tx 1=tx 0++[120]++Lib.decDigits n:=by rw[HK.out,iR (by omega)];simp
       have HQ:=aA hq;clear hq;obtain⟨D,hD⟩:∃D,Lib.decDigits n=D:=⟨_,rfl⟩
       have hl:D.length≤2:=by rw[←hD];exact iO (by omega)
       have hci:=fun u=>vI n (by omega) u;rw[hD]at HQ;simp only[hD]at hci;have HCI:=aA hci
       clear hci hD;go_wp2_with fail;refine(HF.out.byte hBw (by omega) 120).mono ?_;rintro r w3 ⟨rfl,hF3⟩;have HF3:=aA hF3
       clear hF3;go_wp2_with fail;refine(HCI.out _).mono ?_;rintro r w4 ⟨rfl,hw4⟩;obtain rfl:=hw4.symm;clear hw4;go_wp2_with fail;refine(HF3.out.str hBw (by simp;omega) D (by omega)).mono ?_;rintro r w5 ⟨⟨v5,rfl⟩,hF5⟩;have HF5:=aA hF5
       clear hF5;go_wp2;go_roundw;case rel=>exact⟨1,by omega,by go_num,by rw[HQ.out];exact HF5⟩
       case measure=>simp[intOf]
    ·have HK:=key 121 y rfl rfl;clear key;by_cases h0:y=0
     ·subst h0;have hq:tx 2=tx 1:=by rw[HK.out];exact List.append_nil _
      have HQ:=aA hq;clear hq;go_wp2;go_roundw;case rel=>exact⟨2,by omega,by go_num,by rw[HQ.out];exact HF⟩
      case measure=>simp[intOf]
     ·by_cases h1:y=1
      ·subst h1;go_wp2_with fail;refine(HF.out.byte hBw (by omega) 121).mono ?_;rintro r w3 ⟨rfl,hF3⟩;have HF3:=aA hF3
       clear hF3;have hq:tx 2=tx 1++[121]:=HK.out
       have HQ:=aA hq;clear hq;go_wp2;go_roundw;case rel=>exact⟨2,by omega,by go_num,by rw[HQ.out];exact HF3⟩
       case measure=>simp[intOf]
      ·obtain⟨n,rfl⟩:∃n:Nat,y=(n:Int):=⟨y.toNat,by omega⟩
       have hn0:(0:Int)<(n:Int):=by omega
       have hn1:(1:Int)<(n:Int):=by omega
       have hq:tx 2=tx 1++[121]++Lib.decDigits n:=by rw[HK.out,iR (by omega)];simp
       have HQ:=aA hq;clear hq;obtain⟨D,hD⟩:∃D,Lib.decDigits n=D:=⟨_,rfl⟩
       have hl:D.length≤2:=by rw[←hD];exact iO (by omega)
       have hci:=fun u=>vI n (by omega) u;rw[hD]at HQ;simp only[hD]at hci;have HCI:=aA hci
       clear hci hD;go_wp2_with fail;refine(HF.out.byte hBw (by omega) 121).mono ?_;rintro r w3 ⟨rfl,hF3⟩;have HF3:=aA hF3
       clear hF3;go_wp2_with fail;refine(HCI.out _).mono ?_;rintro r w4 ⟨rfl,hw4⟩;obtain rfl:=hw4.symm;clear hw4;go_wp2_with fail;refine(HF3.out.str hBw (by simp;omega) D (by omega)).mono ?_;rintro r w5 ⟨⟨v5,rfl⟩,hF5⟩;have HF5:=aA hF5
       clear hF5;go_wp2;go_roundw;case rel=>exact⟨2,by omega,by go_num,by rw[HQ.out];exact HF5⟩
       case measure=>simp[intOf]
    ·have HK:=key 100 d rfl rfl;clear key;by_cases h0:d=0
     ·subst h0;have hq:tx 3=tx 2:=by rw[HK.out];exact List.append_nil _
      have HQ:=aA hq;clear hq;go_wp2;go_roundw;case rel=>exact⟨3,by omega,by go_num,by rw[HQ.out];exact HF⟩
      case measure=>simp[intOf]
     ·by_cases h1:d=1
      ·subst h1;go_wp2_with fail;refine(HF.out.byte hBw (by omega) 100).mono ?_;rintro r w3 ⟨rfl,hF3⟩;have HF3:=aA hF3
       clear hF3;have hq:tx 3=tx 2++[100]:=HK.out
       have HQ:=aA hq;clear hq;go_wp2;go_roundw;case rel=>exact⟨3,by omega,by go_num,by rw[HQ.out];exact HF3⟩
       case measure=>simp[intOf]
      ·obtain⟨n,rfl⟩:∃n:Nat,d=(n:Int):=⟨d.toNat,by omega⟩
       have hn0:(0:Int)<(n:Int):=by omega
       have hn1:(1:Int)<(n:Int):=by omega
       have hq:tx 3=tx 2++[100]++Lib.decDigits n:=by rw[HK.out,iR (by omega)];simp
       have HQ:=aA hq;clear hq;obtain⟨D,hD⟩:∃D,Lib.decDigits n=D:=⟨_,rfl⟩
       have hl:D.length≤2:=by rw[←hD];exact iO (by omega)
       have hci:=fun u=>vI n (by omega) u;rw[hD]at HQ;simp only[hD]at hci;have HCI:=aA hci
       clear hci hD;go_wp2_with fail;refine(HF.out.byte hBw (by omega) 100).mono ?_;rintro r w3 ⟨rfl,hF3⟩;have HF3:=aA hF3
       clear hF3;go_wp2_with fail;refine(HCI.out _).mono ?_;rintro r w4 ⟨rfl,hw4⟩;obtain rfl:=hw4.symm;clear hw4;go_wp2_with fail;refine(HF3.out.str hBw (by simp;omega) D (by omega)).mono ?_;rintro r w5 ⟨⟨v5,rfl⟩,hF5⟩;have HF5:=aA hF5
       clear hF5;go_wp2;go_roundw;case rel=>exact⟨3,by omega,by go_num,by rw[HQ.out];exact HF5⟩
       case measure=>simp[intOf]
    ·have HK:=key 101 e rfl rfl;clear key;by_cases h0:e=0
     ·subst h0;have hq:tx 4=tx 3:=by rw[HK.out];exact List.append_nil _
      have HQ:=aA hq;clear hq;go_wp2;go_roundw;case rel=>exact⟨4,by omega,by go_num,by rw[HQ.out];exact HF⟩
      case measure=>simp[intOf]
     ·by_cases h1:e=1
      ·subst h1;go_wp2_with fail;refine(HF.out.byte hBw (by omega) 101).mono ?_;rintro r w3 ⟨rfl,hF3⟩;have HF3:=aA hF3
       clear hF3;have hq:tx 4=tx 3++[101]:=HK.out
       have HQ:=aA hq;clear hq;go_wp2;go_roundw;case rel=>exact⟨4,by omega,by go_num,by rw[HQ.out];exact HF3⟩
       case measure=>simp[intOf]
      ·obtain⟨n,rfl⟩:∃n:Nat,e=(n:Int):=⟨e.toNat,by omega⟩
       have hn0:(0:Int)<(n:Int):=by omega
       have hn1:(1:Int)<(n:Int):=by omega
       have hq:tx 4=tx 3++[101]++Lib.decDigits n:=by rw[HK.out,iR (by omega)];simp
       have HQ:=aA hq;clear hq;obtain⟨D,hD⟩:∃D,Lib.decDigits n=D:=⟨_,rfl⟩
       have hl:D.length≤2:=by rw[←hD];exact iO (by omega)
       have hci:=fun u=>vI n (by omega) u;rw[hD]at HQ;simp only[hD]at hci;have HCI:=aA hci
       clear hci hD;go_wp2_with fail;refine(HF.out.byte hBw (by omega) 101).mono ?_;rintro r w3 ⟨rfl,hF3⟩;have HF3:=aA hF3
       clear hF3;go_wp2_with fail;refine(HCI.out _).mono ?_;rintro r w4 ⟨rfl,hw4⟩;obtain rfl:=hw4.symm;clear hw4;go_wp2_with fail;refine(HF3.out.str hBw (by simp;omega) D (by omega)).mono ?_;rintro r w5 ⟨⟨v5,rfl⟩,hF5⟩;have HF5:=aA hF5
       clear hF5;go_wp2;go_roundw;case rel=>exact⟨4,by omega,by go_num,by rw[HQ.out];exact HF5⟩
       case measure=>simp[intOf]
open Go.Shelf Go.RowKit
theorem jY (l:List UInt8):(⟨l.toArray⟩:ByteArray).size=l.length:=by simp[ByteArray.size]
theorem gJ {l:List UInt8} {k:Nat} {c:UInt8} (h:l[k]? =some c) (u:World):(Instr.index 9 (.string ⟨l.toArray⟩) (.int .i64 (k:Int))).run Tryz.prog u= .ok (.int .u8 (c.toNat:Int)) u:=by obtain⟨hk,e⟩:=List.getElem?_eq_some_iff.1 h;rw[run_index_string _ _ _ _ _ Tryz.underlying9,dif_pos ⟨by omega,by rw[jY];omega⟩];subst e;rfl
theorem AL {l:List UInt8} {k:Nat} (h:k≤l.length) (u:World):(Instr.slice 9 (.string ⟨l.toArray⟩) none (some (.int .i64 (k:Int))) none).run Tryz.prog u= .ok (.string ⟨(l.take k).toArray⟩) u:=by rw[run_slice_string_to_if _ _ _ _ _ Tryz.underlying9,if_pos ⟨by omega,by rw[jY];omega⟩];congr 2;apply ByteArray.ext;simp
theorem jT {l:List UInt8} {k:Nat} (h:k≤l.length) (u:World):(Instr.slice 9 (.string ⟨l.toArray⟩) (some (.int .i64 (k:Int))) none none).run Tryz.prog u= .ok (.string ⟨(l.drop k).toArray⟩) u:=by rw[run_slice_string_from_if _ _ _ _ _ Tryz.underlying9,if_pos ⟨by omega,by rw[jY];omega⟩];congr 2;apply ByteArray.ext;simp[jY];exact List.take_of_length_le (by simp)
theorem lS {l:List UInt8} {k:Nat} (h1:∀j c,j<k→l[j]? =some c→jH c=true) (h2:∀c,l[k]? =some c→jH c=false) (hk:k≤l.length):l.take k=bV l:=by
 have e:l=l.take k++l.drop k:=(List.take_append_drop k l).symm
 have:=fA (d:=l.take k) (t:=l.drop k) (fun c hc=>by
  obtain⟨j,hj,e⟩:=List.getElem_of_mem hc;rw[List.length_take]at hj
  exact h1 j c (by omega) (by rw[←e,List.getElem_take];exact List.getElem?_eq_getElem _)) (fun c r e=>h2 c (by
   have:(l.drop k)[0]? =some c:=by rw[e];rfl
   rw[List.getElem?_drop]at this
   simpa using this))
 rw[←e]at this;exact this.symm
theorem yB (l:List UInt8) (hl:l.length≤1000000) (w:World):Calls Tryz.prog 158 #[.string ⟨l.toArray⟩] w fun r w'=>r= .returned (.string ⟨(bV l).toArray⟩)∧w'=w:=by
 go_enter Tryz.func158,Tryz.ntmps158;go_wp2
 go_loop [3] (fun v=>∃k:Nat,k≤l.length∧v= .int .i64 (k:Int)∧Hid (∀j c,j<k→l[j]? =some c→jH c=true)) (fun v=>l.length-(intOf v).toNat)
 case atStart=>exact⟨0,gO _,rfl,fun j c hj=>by omega⟩
 case round=>
  obtain⟨k,hk,rfl,HD⟩:=hrel;have hlI:(l.length:Int)≤1000000:=by omega
  by_cases hkl:k<l.length
  ·have hkI:(k:Int)<(l.length:Int):=by omega
   obtain⟨c,hc⟩:∃c,l[k]? =some c:=⟨_,List.getElem?_eq_getElem hkl⟩
   have hix:=gJ hc;have HC:=aA hc
   clear hc;obtain⟨z,hz⟩:∃z:Nat,c.toNat=z:=⟨_,rfl⟩
   have hdz:jH c=decide (48≤z∧z≤57):=by unfold jH;rw[hz]
   have HDZ:=aA hdz;rw[hz]at hix;clear hz hdz
   have fin:¬(48≤z∧z≤57)→Hid (l.take k=bV l):=fun hn=>aA (lS HD.out (fun c' hc'=>by
    have e:=HC.out.symm.trans hc';cases e
    rw[HDZ.out];exact decide_eq_false hn) hk)
   have hto:=fun u=>AL (l:=l) (k:=k) hk u;by_cases h1:48≤z
   ·have h1I:(48:Int)≤(z:Int):=by omega
    by_cases h2:z≤57
    ·have h2I:(z:Int)≤57:=by omega
     have HN:Hid (∀j c,j<k+1→l[j]? =some c→jH c=true):=fun j c' hj hc'=>by
      by_cases e:j=k
      ·subst e;have e:=HC.out.symm.trans hc'
       cases e;rw[HDZ.out];exact decide_eq_true ⟨h1,h2⟩
      ·exact HD.out j c' (by omega) hc'
     clear fin hto;go_wp2;go_round;case rel=>exact⟨k+1,by omega,by go_num,HN⟩
     case measure=>simp[intOf];omega
    ·have h2I:¬(z:Int)≤57:=by omega
     have HF:=fin (fun q=>h2 q.2);clear fin;go_wp2;go_ret;exact⟨by rw[←HF.out];rfl,rfl⟩
   ·have h1I:¬(48:Int)≤(z:Int):=by omega
    have HF:=fin (fun q=>h1 q.1);clear fin;go_wp2;go_ret;exact⟨by rw[←HF.out];rfl,rfl⟩
  ·have hke:k=l.length:=by omega
   have hnl:¬(k:Int)<(l.length:Int):=by omega
   have HF:Hid (l.take k=bV l):=aA (lS HD.out (fun c hc=>by
    have:=(List.getElem?_eq_some_iff.1 hc).1
    omega) hk)
   have hto:=fun u=>AL (l:=l) (k:=k) hk u;clear hke;go_wp2;go_ret;exact⟨by rw[←HF.out];rfl,rfl⟩
end Go.Proofs.YtkcmamepoplcdaaGreatDoor
namespace Go.Proofs.YtkcmamepoplcdaaGreatDoor
open Go.RowKit
set_option linter.unusedVariables false
theorem oQ:(Tryz.prog.info? 9).map (fun i=>(i.zero,i.size,i.bytes))=some (some (.string ⟨#[]⟩),1,16):=by kernel_rfl
def uM (xs:List (List UInt8)):List Value:=xs.map fun l=>Value.string ⟨l.toArray⟩
theorem kO (a b:List (List UInt8)):uM (a++b)=uM a++uM b:=by simp[uM]
theorem hU (s:ByteArray):∀u∈[Value.string s],u.oneCell'=true:=fun u hu=>by
 rw[List.mem_singleton]at hu;subst hu;rfl
abbrev oJ (lo:Nat) (v:Value) (xs:List (List UInt8)) (w:World):Prop:=w.ownsRow lo 9 1 v xs.length (uM xs)
theorem rR (w:World) (lo:Nat) (h:lo≤w.heap.size):oJ lo (.slice (some ⟨w.heap.size,0,none⟩) 0 0) [] (w.alloc (.cells #[] 9)):=World.ownsRow_lit _ _ _ h (gO _) rfl
theorem lZ {lo:Nat} {g k cp:Nat} {xs:List (List UInt8)} {w:World} (h:oJ lo (.slice (some ⟨g,0,none⟩) k cp) xs w):k=xs.length∧lo≤g∧g<w.heap.size:=by
 rcases h.2 with⟨e,_⟩|⟨g',cap',cur,e,h2,h3,_⟩
 ·cases e
 ·cases e;exact⟨rfl,h2,(Array.getElem?_eq_some_iff.1 h3).1⟩
theorem dP {lo:Nat} {g k cp:Nat} {xs:List (List UInt8)} {w:World} (h:oJ lo (.slice (some ⟨g,0,none⟩) k cp) xs w) {i:Nat} {l:List UInt8} (hi:xs[i]? =some l):w.cell? ⟨g,i,none⟩=some (.string ⟨l.toArray⟩):=by
 have hl:=(List.getElem?_eq_some_iff.1 hi).1;obtain⟨rfl,_⟩:=lZ h;have e:=World.ownsRow.cellAt h i (by omega)
 rw[e];unfold uM;rw[List.getElem?_map,hi];rfl
end Go.Proofs.YtkcmamepoplcdaaGreatDoor
