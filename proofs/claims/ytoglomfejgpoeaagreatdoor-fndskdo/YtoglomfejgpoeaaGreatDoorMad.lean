/-
  Reading an operator, as lists of bytes: the model's way and the program's are one.
-/
import Derived.Test.YtoglomfejgpoeaaGreatDoorMac
import Derived.Shelf.Strings.Builder1
import Derived.Shelf.Small.Wraps
import Derived.Shelf.Strconv.AtoiAll
import Derived.Shelf.Strconv.ErrVarAll
import Derived.Laws.MakeOwn
import Derived.Deep.RegionWith
set_option maxHeartbeats 4000000
set_option maxRecDepth 100000
namespace Go.Proofs.YtoglomfejgpoeaaGreatDoor
set_option linter.unusedVariables false
open Go.Shelf Go.RowKit
def oK:Go.Shelf.Ren:=⟨fun|0=>0|1=>1|2=>2|103=>226|122=>154|125=>199|128=>219|129=>192|138=>189|143=>136|145=>50|147=>137|156=>71|165=>112|166=>113|167=>170|169=>114|170=>171|171=>63|172=>186|195=>205|197=>201|205=>237|206=>242|210=>238|215=>179|217=>157|218=>206|219=>134|220=>94|221=>163|224=>159|225=>158|240=>143|241=>144|243=>109|244=>202|245=>203|246=>141|247=>221|260=>220|266=>182|267=>160|268=>188|276=>172|277=>173|279=>222|280=>223|281=>224|282=>225|283=>166|284=>167|285=>168|286=>169|287=>235|314=>183|316=>236|317=>191|318=>193|319=>194|320=>195|321=>240|322=>241|329=>231|330=>232|337=>209|338=>210|347=>243|348=>244|349=>245|350=>246|351=>247|352=>248|353=>249|354=>250|355=>251|356=>252|357=>253|358=>254|359=>255|360=>256|361=>257|362=>258|363=>261|364=>259|365=>260|366=>262|367=>273|n=>n,fun|0=>0|1=>1|2=>2|3=>3|4=>4|5=>5|6=>6|7=>7|8=>8|9=>9|10=>10|11=>11|12=>12|13=>13|14=>14|15=>15|16=>16|17=>17|18=>18|19=>19|20=>20|21=>21|22=>254|24=>228|25=>229|26=>162|27=>158|28=>90|31=>46|37=>51|38=>55|43=>115|46=>174|47=>205|51=>195|52=>213|53=>183|54=>184|55=>173|59=>68|60=>69|62=>159|67=>93|68=>63|69=>199|70=>127|71=>128|72=>129|73=>130|74=>131|75=>132|76=>133|77=>134|78=>188|80=>135|81=>92|83=>81|84=>163|85=>223|86=>224|101=>49|102=>48|103=>66|104=>29|105=>209|106=>210|108=>247|111=>155|113=>180|114=>65|119=>239|127=>164|128=>211|131=>220|137=>240|138=>241|139=>242|143=>251|144=>252|145=>253|146=>196|150=>201|151=>197|164=>189|165=>190|166=>191|167=>222|168=>225|169=>226|170=>227|171=>182|172=>185|173=>186|174=>187|175=>243|176=>244|182=>215|183=>216|209=>245|210=>246|211=>202|212=>203|213=>204|214=>250|218=>233|219=>234|220=>235|222=>237|228=>248|229=>156|232=>231|233=>232|238=>255|239=>256|240=>257|241=>258|242=>259|243=>260|244=>261|245=>262|246=>263|247=>264|248=>265|249=>266|n=>n,fun n=>n⟩
theorem GG:Lays.n166 Tryz.prog oK where
 mixed:=by kernel_rfl
 f166:=Tryz.func113.trans (congrArg some (by kernel_rfl))
 f240:=Tryz.func143.trans (congrArg some (by kernel_rfl))
 f276:=Tryz.func172.trans (congrArg some (by kernel_rfl))
 t0:=Tryz.underlying0
 a0:=Tryz.isAgg0
 z0:=Tryz.sizeOf0
 v0:=Tryz.zeroValue0
 t3:=Tryz.underlying3
 a3:=Tryz.isAgg3
 z3:=Tryz.sizeOf3
 v3:=Tryz.zeroValue3
 t4:=Tryz.underlying4
 a4:=Tryz.isAgg4
 z4:=Tryz.sizeOf4
 v4:=Tryz.zeroValue4
 t9:=Tryz.underlying9
 a9:=Tryz.isAgg9
 z9:=Tryz.sizeOf9
 v9:=Tryz.zeroValue9
 t20:=Tryz.underlying20
 a20:=Tryz.isAgg20
 z20:=Tryz.sizeOf20
 v20:=Tryz.zeroValue20
 t37:=Tryz.underlying51
 a37:=Tryz.isAgg51
 z37:=Tryz.sizeOf51
 v37:=Tryz.zeroValue51
 t70:=Tryz.underlying127
 a70:=Tryz.isAgg127
 z70:=Tryz.sizeOf127
 v70:=Tryz.zeroValue127
 t72:=Tryz.underlying129
 a72:=Tryz.isAgg129
 z72:=Tryz.sizeOf129
 v72:=Tryz.zeroValue129
 t75:=Tryz.underlying132
 a75:=Tryz.isAgg132
 z75:=Tryz.sizeOf132
 v75:=Tryz.zeroValue132
 t164:=Tryz.underlying189
 a164:=Tryz.isAgg189
 z164:=Tryz.sizeOf189
 v164:=Tryz.zeroValue189
theorem zW:Builder.Extra Tryz.prog oK where
 sizeBuilder:=by kernel_rfl
 liesBuilder:=by kernel_rfl
 t5:=Tryz.underlying5
 a5:=Tryz.isAgg5
 z5:=Tryz.sizeOf5
 v5:=Tryz.zeroValue5
 infoByte:=by kernel_rfl
 cellsByte:=by kernel_rfl
 sizeByte:=by kernel_rfl
 neB5:=by decide
theorem qX (B b:Nat) (bs:List Value) (s:ByteArray) (w:World) (h:Lib.IsBuilder 129 5 B b bs w) (hlen:bs.length+s.size≤140737488355328) (hBw:B≤w.heap.size):
 Calls Tryz.prog 113 #[.pointer (some ⟨b,0,none⟩),.string s] w fun e w'=>e= .returned (.tuple #[.int .i64 s.size,.nilIface])∧(Lib.BuilderAt 129 5 B b (.pointer (some ⟨b,0,none⟩)) (bs++Lib.strCells s) w'∧Below B w w'):=Any.Builder_WriteString GG zW B b bs s w h hlen hBw
def oL:Go.Shelf.Ren:=⟨fun|0=>0|1=>1|2=>2|103=>226|122=>154|125=>199|128=>219|129=>192|138=>189|143=>136|145=>50|147=>137|156=>71|165=>112|166=>113|167=>170|169=>114|170=>171|171=>63|172=>186|195=>205|197=>201|205=>237|206=>242|210=>238|215=>179|217=>157|218=>206|219=>134|220=>94|221=>163|224=>159|225=>158|240=>143|241=>144|243=>109|244=>202|245=>203|246=>141|247=>221|260=>220|266=>182|267=>160|268=>188|276=>172|277=>173|279=>222|280=>223|281=>224|282=>225|283=>166|284=>167|285=>168|286=>169|287=>235|314=>183|316=>236|317=>191|318=>193|319=>194|320=>195|321=>240|322=>241|329=>231|330=>232|337=>209|338=>210|347=>243|348=>244|349=>245|350=>246|351=>247|352=>248|353=>249|354=>250|355=>251|356=>252|357=>253|358=>254|359=>255|360=>256|361=>257|362=>258|363=>261|364=>259|365=>260|366=>262|367=>273|n=>n,fun|0=>0|1=>1|2=>2|3=>3|4=>4|5=>5|6=>6|7=>7|8=>8|9=>9|10=>10|11=>11|12=>12|13=>13|14=>14|15=>15|16=>16|17=>17|18=>18|19=>19|20=>20|21=>21|22=>254|24=>228|25=>229|26=>162|27=>158|28=>90|31=>46|37=>51|38=>55|43=>115|46=>174|47=>205|51=>195|52=>213|53=>183|54=>184|55=>173|59=>68|60=>69|62=>159|67=>93|68=>63|69=>199|70=>127|71=>128|72=>129|73=>130|74=>131|75=>132|76=>133|77=>134|78=>188|80=>135|81=>92|83=>81|84=>163|85=>223|86=>224|101=>49|102=>48|103=>66|104=>29|105=>209|106=>210|108=>247|111=>155|113=>180|114=>65|119=>239|127=>164|128=>211|131=>220|137=>240|138=>241|139=>242|143=>251|144=>252|145=>253|146=>196|150=>201|151=>197|164=>189|165=>190|166=>191|167=>222|168=>225|169=>226|170=>227|171=>182|172=>185|173=>186|174=>187|175=>243|176=>244|182=>215|183=>216|209=>245|210=>246|211=>202|212=>203|213=>204|214=>250|218=>233|219=>234|220=>235|222=>237|228=>248|229=>156|232=>231|233=>232|238=>255|239=>256|240=>257|241=>258|242=>259|243=>260|244=>261|245=>262|246=>263|247=>264|248=>265|249=>266|n=>n,fun n=>n⟩
theorem GH:Lays.n167 Tryz.prog oL where
 mixed:=by kernel_rfl
 f167:=Tryz.func170.trans (congrArg some (by kernel_rfl))
 f240:=Tryz.func143.trans (congrArg some (by kernel_rfl))
 f276:=Tryz.func172.trans (congrArg some (by kernel_rfl))
 t0:=Tryz.underlying0
 a0:=Tryz.isAgg0
 z0:=Tryz.sizeOf0
 v0:=Tryz.zeroValue0
 t4:=Tryz.underlying4
 a4:=Tryz.isAgg4
 z4:=Tryz.sizeOf4
 v4:=Tryz.zeroValue4
 t5:=Tryz.underlying5
 a5:=Tryz.isAgg5
 z5:=Tryz.sizeOf5
 v5:=Tryz.zeroValue5
 t9:=Tryz.underlying9
 a9:=Tryz.isAgg9
 z9:=Tryz.sizeOf9
 v9:=Tryz.zeroValue9
 t20:=Tryz.underlying20
 a20:=Tryz.isAgg20
 z20:=Tryz.sizeOf20
 v20:=Tryz.zeroValue20
 t37:=Tryz.underlying51
 a37:=Tryz.isAgg51
 z37:=Tryz.sizeOf51
 v37:=Tryz.zeroValue51
 t70:=Tryz.underlying127
 a70:=Tryz.isAgg127
 z70:=Tryz.sizeOf127
 v70:=Tryz.zeroValue127
 t72:=Tryz.underlying129
 a72:=Tryz.isAgg129
 z72:=Tryz.sizeOf129
 v72:=Tryz.zeroValue129
 t75:=Tryz.underlying132
 a75:=Tryz.isAgg132
 z75:=Tryz.sizeOf132
 v75:=Tryz.zeroValue132
 t164:=Tryz.underlying189
 a164:=Tryz.isAgg189
 z164:=Tryz.sizeOf189
 v164:=Tryz.zeroValue189
theorem zX:Builder.Extra Tryz.prog oL where
 sizeBuilder:=by kernel_rfl
 liesBuilder:=by kernel_rfl
 t5:=Tryz.underlying5
 a5:=Tryz.isAgg5
 z5:=Tryz.sizeOf5
 v5:=Tryz.zeroValue5
 infoByte:=by kernel_rfl
 cellsByte:=by kernel_rfl
 sizeByte:=by kernel_rfl
 neB5:=by decide
theorem uO (B b:Nat) (bs:List Value) (c:Int) (w:World) (h:Lib.IsBuilder 129 5 B b bs w) (hlen:bs.length+1≤140737488355328) (hBw:B≤w.heap.size):
 Calls Tryz.prog 170 #[.pointer (some ⟨b,0,none⟩),.int .u8 c] w fun e w'=>e= .returned .nilIface∧(Lib.BuilderAt 129 5 B b (.pointer (some ⟨b,0,none⟩)) (bs++[.int .u8 c]) w'∧Below B w w'):=Any.Builder_WriteByte GH zX B b bs c w h hlen hBw
shelf_lay Lays.n169 Nm 169 at Tryz as lay169
theorem zY:Builder.Extra Tryz.prog lay169_ren where
 sizeBuilder:=by kernel_rfl
 liesBuilder:=by kernel_rfl
 t5:=Tryz.underlying5
 a5:=Tryz.isAgg5
 z5:=Tryz.sizeOf5
 v5:=Tryz.zeroValue5
 infoByte:=by kernel_rfl
 cellsByte:=by kernel_rfl
 sizeByte:=by kernel_rfl
 neB5:=by decide
theorem CT (B b:Nat) (l:List UInt8) (w:World) (h:Lib.IsBuilder 129 5 B b (Lib.byteCells l) w) (hBw:B≤w.heap.size):
 Calls Tryz.prog 114 #[.pointer (some ⟨b,0,none⟩)] w fun e w'=>e= .returned (.string ⟨l.toArray⟩)∧Below B w w':=Any.Builder_String_any lay169 zY B b l w h hBw
shelf_lay Lays.n170 Nm 170 at Tryz as lay170
theorem JH (B b:Nat) (bs:List Value) (w:World) (h:Lib.IsBuilder 129 5 B b bs w):
 Calls Tryz.prog 171 #[.pointer (some ⟨b,0,none⟩)] w fun e w'=>e= .returned (.int .i64 bs.length)∧w'=w:=Any.Builder_Len lay170 B b bs w h
shelf_lay Lays.n171 Nm 171 at Tryz as lay171
theorem rF (i:Nat) (hi:i<100) (w:World):
 Calls Tryz.prog 63 #[.int .i64 i] w fun e w'=>e= .returned (.string ⟨(Lib.decDigits i).toArray⟩)∧w'=w:=Any.strconv_Itoa_small lay171 i hi w
end Go.Proofs.YtoglomfejgpoeaaGreatDoor
namespace Go.Proofs.YtoglomfejgpoeaaGreatDoor
open Go.RowKit
set_option linter.unusedVariables false
set_option linter.unusedSimpArgs false
theorem CV (l:List UInt8) (c:UInt8):Lib.byteCells l++[.int .u8 (c.toNat:Int)]=Lib.byteCells (l++[c]):=by rw[Lib.byteCells_append];rfl
theorem FM (l:List UInt8) (s:List UInt8):Lib.byteCells l++Lib.strCells ⟨s.toArray⟩=Lib.byteCells (l++s):=by rw[Lib.strCells_eq,Lib.byteCells_append]
theorem zD {B b:Nat} {l:List UInt8} {c:UInt8} {w:World} (h:Lib.BuilderAt 129 5 B b (.pointer (some ⟨b,0,none⟩)) (Lib.byteCells l++[.int .u8 (c.toNat:Int)]) w):Lib.IsBuilder 129 5 B b (Lib.byteCells (l++[c])) w:=by rw[CV]at h;exact .inr h
theorem CW {B b:Nat} {l s:List UInt8} {w:World} (h:Lib.BuilderAt 129 5 B b (.pointer (some ⟨b,0,none⟩)) (Lib.byteCells l++Lib.strCells ⟨s.toArray⟩) w):Lib.IsBuilder 129 5 B b (Lib.byteCells (l++s)) w:=by rw[FM]at h;exact .inr h
theorem xF {w w':World} (h:Below (w.alloc (.cells #[.pointer none,.slice none 0 0] 129)).heap.size (w.alloc (.cells #[.pointer none,.slice none 0 0] 129)) w'):Lib.IsBuilder 129 5 w.heap.size w.heap.size (Lib.byteCells []) w':=
 .inl ⟨Nat.le_refl _,.slice none 0 0,(h.block w.heap.size (by simp)).trans (Go.heap_alloc_new w _),World.ownsRow_nil _ _ _ _,by simp[Value.ownBlock]⟩
def CJ (B:Nat) (w:World) (l:List UInt8) (wr:World):Prop:=Lib.IsBuilder 129 5 B B (Lib.byteCells l) wr∧Below B w wr
theorem CJ.size {B:Nat} {w wr:World} {l:List UInt8} (h:CJ B w l wr) (hB:B≤w.heap.size):B≤wr.heap.size:=gU hB h.2.size
theorem CJ.byte {B:Nat} {w wr:World} {l:List UInt8} (h:CJ B w l wr) (hB:B≤w.heap.size) (hl:l.length≤100) (c:UInt8):Calls Tryz.prog 170 #[.pointer (some ⟨B,0,none⟩),.int .u8 (c.toNat:Int)] wr fun e w'=>e= .returned .nilIface∧CJ B w (l++[c]) w':=
 (uO B B _ _ wr h.1 (by rw[Lib.byteCells_length];omega) (h.size hB)).mono fun e w' ⟨he,h1,h2⟩=>⟨he,zD h1,h.2.trans h2⟩
theorem CJ.str  {B:Nat} {w wr:World} {l:List UInt8} (h:CJ  B w l wr) (hB:B≤w.heap.size) (hl:l.length≤100) (s:List UInt8) (hs:s.length≤100):Calls Tryz.prog 113 #[.pointer (some ⟨B,0,none⟩),.string ⟨s.toArray⟩] wr fun e w'=>(∃v,e= .returned v)∧CJ  B w (l++s) w':=
 (qX           B B _ _ wr h.1 (by
  rw[Lib.byteCells_length];have:(⟨s.toArray⟩:ByteArray).size=s.length:=by simp[ByteArray.size]
  omega) (h.size hB)).mono fun e w' ⟨he,h1,h2⟩=>⟨⟨_,he⟩,CW      h1,h.2.trans h2⟩
theorem AO (x y d e:Int) (w:World):Calls Tryz.prog 142 #[.agg #[.int .i64 x,.int .i64 y,.int .i64 d,.int .i64 e]] w fun r w'=>r= .returned (.string ⟨(gG ⟨x,y,d,e⟩).toArray⟩)∧Below w.heap.size w w':=by
 obtain⟨ok,hok⟩:∃b,M.ok ⟨x,y,d,e⟩=b:=⟨_,rfl⟩
 have HOK:=aA hok;clear hok;cases ok
 ·have he:=wH HOK.out;have HE:=aA he
  clear he;go_enter Tryz.func142,Tryz.ntmps142;go_wp2_with fail;refine(qI HOK.out _).mono ?_;rintro r w1 ⟨rfl,hb⟩;go_wp2;go_ret;exact⟨by rw[HE.out];rfl,aC (aG w _) hb⟩
 ·obtain⟨x1,x2,y1,y2,d1,d2,e1,e2⟩:=M.ok_iff.1 HOK.out;simp only at x1 x2 y1 y2 d1 d2 e1 e2;have i0:∀w:World,(Instr.index 151 (.agg #[.int .i64 x,.int .i64 y,.int .i64 d,.int .i64 e]) (.int .i64 0)).run Tryz.prog w= .ok (.int .i64 x) w:=fun _=>by kernel_rfl
  have i1:∀w:World,(Instr.index 151 (.agg #[.int .i64 x,.int .i64 y,.int .i64 d,.int .i64 e]) (.int .i64 1)).run Tryz.prog w= .ok (.int .i64 y) w:=fun _=>by kernel_rfl
  have i2:∀w:World,(Instr.index 151 (.agg #[.int .i64 x,.int .i64 y,.int .i64 d,.int .i64 e]) (.int .i64 2)).run Tryz.prog w= .ok (.int .i64 d) w:=fun _=>by kernel_rfl
  have i3:∀w:World,(Instr.index 151 (.agg #[.int .i64 x,.int .i64 y,.int .i64 d,.int .i64 e]) (.int .i64 3)).run Tryz.prog w= .ok (.int .i64 e) w:=fun _=>by kernel_rfl
  have j0:∀w:World,(Instr.index 9 (.string ⟨#[120,121,100,101]⟩) (.int .i64 0)).run Tryz.prog w= .ok (.int .u8 ((120:UInt8).toNat:Int)) w:=fun _=>by kernel_rfl
  have j1:∀w:World,(Instr.index 9 (.string ⟨#[120,121,100,101]⟩) (.int .i64 1)).run Tryz.prog w= .ok (.int .u8 ((121:UInt8).toNat:Int)) w:=fun _=>by kernel_rfl
  have j2:∀w:World,(Instr.index 9 (.string ⟨#[120,121,100,101]⟩) (.int .i64 2)).run Tryz.prog w= .ok (.int .u8 ((100:UInt8).toNat:Int)) w:=fun _=>by kernel_rfl
  have j3:∀w:World,(Instr.index 9 (.string ⟨#[120,121,100,101]⟩) (.int .i64 3)).run Tryz.prog w= .ok (.int .u8 ((101:UInt8).toNat:Int)) w:=fun _=>by kernel_rfl
  have HLEN:=aA (oY HOK.out);have HT:=aA (show ∀k,kT ⟨x,y,d,e⟩ (k+1)=kT ⟨x,y,d,e⟩ k++oC (IW k) (pU x y d e k)from fun k=>rfl)
  have HS4:=aA (show kT ⟨x,y,d,e⟩ 4=oQ ⟨x,y,d,e⟩from rfl);have HS0:=aA (show kT ⟨x,y,d,e⟩ 0=[]from rfl)
  obtain⟨pI,hRes⟩:∃R,gG ⟨x,y,d,e⟩=R:=⟨_,rfl⟩
  rw[hRes];have HR1:=aA (tP (m:=⟨x,y,d,e⟩) HOK.out)
  have HR2:=aA (rJ (m:=⟨x,y,d,e⟩) HOK.out);rw[hRes]at HR1 HR2;clear hRes;obtain⟨tx,htx⟩:∃f,kT ⟨x,y,d,e⟩=f:=⟨_,rfl⟩
  obtain⟨mS,hmS⟩:∃f,oQ ⟨x,y,d,e⟩=f:=⟨_,rfl⟩
  rw[htx]at HLEN HT HS4 HS0;rw[hmS]at HS4 HR1 HR2;clear htx hmS;go_enter Tryz.func142,Tryz.ntmps142;go_wp2_with fail;refine(qI HOK.out _).mono ?_;rintro r w1 ⟨rfl,hb⟩;have hb1:=aC (aG w (.cells #[.int .i64 x,.int .i64 y,.int .i64 d,.int .i64 e] 78)) hb
  have HB1:=aA hb1;have c0:w1.cell? ⟨w.heap.size,0,none⟩=some (.int .i64 x):=(hb.cell (p:=⟨w.heap.size,0,none⟩) (by simp)).trans (by rw[World.cell?_alloc_at _ _ _ _ rfl];rfl)
  have c1:w1.cell? ⟨w.heap.size,1,none⟩=some (.int .i64 y):=(hb.cell (p:=⟨w.heap.size,1,none⟩) (by simp)).trans (by rw[World.cell?_alloc_at _ _ _ _ rfl];rfl);have c2:w1.cell? ⟨w.heap.size,2,none⟩=some (.int .i64 d):=(hb.cell (p:=⟨w.heap.size,2,none⟩) (by simp)).trans (by rw[World.cell?_alloc_at _ _ _ _ rfl];rfl)
  have c3:w1.cell? ⟨w.heap.size,3,none⟩=some (.int .i64 e):=(hb.cell (p:=⟨w.heap.size,3,none⟩) (by simp)).trans (by rw[World.cell?_alloc_at _ _ _ _ rfl];rfl);have hws:w.heap.size<w1.heap.size:=dR (by simp) hb.size
  clear hb hb1;go_wp2_with fail;refine(vP x y d e _).mono ?_;rintro r w2 ⟨rfl,hb2⟩;have HF0:Hid (CJ w1.heap.size w1 (tx 0) w2):=by rw[HS0.out];exact⟨xF hb2,Below.trans ((aD _ w1).alloc (Nat.le_refl _) _) (hb2.mono (by simp))⟩
  clear hb2 c0 c1 c2 c3;obtain⟨B,hB⟩:∃B,w1.heap.size=B:=⟨_,rfl⟩
  rw[hB]at HF0;have hBw:B≤w1.heap.size:=by omega
  have hwB:w.heap.size≤B:=by omega
  simp only[hB];clear hB;go_wp2;go_loopw [11] (fun v wr=>∃k:Nat,k≤4∧v= .int .i64 (k:Int)∧Hid (CJ B w1 (tx k) wr)) (fun v _=>4-(intOf v).toNat);case atStart=>exact⟨0,by omega,rfl,HF0⟩
  case round=>
   obtain⟨k,hk,rfl,HF⟩:=hrel;by_cases hk4:k=4
   ·subst hk4;rw[HS4.out]at HF;have hl12:mS.length≤12:=by rw[←HS4.out];exact HLEN.out 4
    go_wp2_with fail;refine(JH B B _ _ HF.out.1).mono ?_;rw[Lib.byteCells_length];rintro r w9 ⟨rfl,hw9⟩;obtain rfl:=hw9.symm;clear hw9;by_cases h0:mS=[]
    ·have hl0:mS.length=0:=by rw[h0];rfl
     have hR:=HR1.out h0;have HR:=aA hR
     clear hR h0;rw[hl0];go_wp2;go_ret;exact⟨by rw[HR.out];rfl,HB1.out.trans (HF.out.2.mono (by omega))⟩
    ·have hl0:((mS.length:Int)==0)=false:=beq_eq_false_iff_ne.2 (fun h=>h0 (List.length_eq_zero_iff.1 (by omega)));have hR:=HR2.out h0
     have HR:=aA hR;clear hR h0;go_wp2_with fail;refine(CT B B mS _ HF.out.1 (HF.out.size hBw)).mono ?_;rintro r w8 ⟨rfl,hb8⟩;go_wp2;go_ret;exact⟨by rw[HR.out];rfl,HB1.out.trans ((HF.out.2.trans hb8).mono (by omega))⟩
   ·have hkl:(k:Int)<4:=by omega
    have hlk:(tx k).length≤12:=by have:=HLEN.out k;omega
    have key:∀(c:UInt8) (n:Int),IW k=c→pU x y d e k=n→Hid (tx (k+1)=tx k++oC c n):=fun c n h1 h2=>by rw[HT.out,h1,h2];exact aA rfl
    rcases(show k=0∨k=1∨k=2∨k=3 by omega)with rfl|rfl|rfl|rfl
    ·have HK:=key 120 x rfl rfl;clear key;by_cases h0:x=0
     ·subst h0;have hq:tx 1=tx 0:=by rw[HK.out];exact List.append_nil _
      have HQ:=aA hq;clear hq;go_wp2;go_roundw;case rel=>exact⟨1,by omega,by go_num,by rw[HQ.out];exact HF⟩
      case measure=>simp[intOf]
     ·by_cases h1:x=1
      ·subst h1;go_wp2_with fail;refine(HF.out.byte hBw (by omega) 120).mono ?_;rintro r w3 ⟨rfl,hF3⟩;have HF3:=aA hF3
       clear hF3;have hq:tx 1=tx 0++[120]:=HK.out
       have HQ:=aA hq;clear hq;go_wp2;go_roundw;case rel=>exact⟨1,by omega,by go_num,by rw[HQ.out];exact HF3⟩
       case measure=>simp[intOf]
      ·obtain⟨n,rfl⟩:∃n:Nat,x=(n:Int):=⟨x.toNat,by omega⟩
       have hn0:(0:Int)<(n:Int):=by omega
       have hn1:(1:Int)<(n:Int):=by omega
       have hq:tx 1=tx 0++[120]++Lib.decDigits n:=by rw[HK.out,jO (by omega)];simp
       have HQ:=aA hq;clear hq;obtain⟨D,hD⟩:∃D,Lib.decDigits n=D:=⟨_,rfl⟩
       have hl:D.length≤2:=by rw[←hD];exact gP (by omega)
       have hci:=fun u=>rF n (by omega) u;rw[hD]at HQ;simp only[hD]at hci;have HCI:=aA hci
       clear hci hD;go_wp2_with fail;refine(HF.out.byte hBw (by omega) 120).mono ?_;rintro r w3 ⟨rfl,hF3⟩;have HF3:=aA hF3
       clear hF3;go_wp2_with fail;refine(HCI.out _).mono ?_;rintro r w4 ⟨rfl,hw4⟩;obtain rfl:=hw4.symm;clear hw4;go_wp2_with fail;refine(HF3.out.str hBw (by simp;omega) D (by omega)).mono ?_;rintro r w5 ⟨⟨v5,rfl⟩,hF5⟩;have HF5:=aA hF5
       clear hF5;go_wp2;go_roundw;case rel=>exact⟨1,by omega,by go_num,by rw[HQ.out];exact HF5⟩
       case measure=>simp[intOf]
    ·have HK:=key 121 y rfl rfl;clear key;by_cases h0:y=0
     ·subst h0;have hq:tx 2=tx 1:=by rw[HK.out];exact List.append_nil _
      have HQ:=aA hq;clear hq;go_wp2;go_roundw;case rel=>exact⟨2,by omega,by go_num,by rw[HQ.out];exact HF⟩
      case measure=>simp[intOf]
     ·by_cases h1:y=1
      ·subst h1;go_wp2_with fail;refine(HF.out.byte hBw (by omega) 121).mono ?_;rintro r w3 ⟨rfl,hF3⟩;have HF3:=aA hF3
       clear hF3;have hq:tx 2=tx 1++[121]:=HK.out
       have HQ:=aA hq;clear hq;go_wp2;go_roundw;case rel=>exact⟨2,by omega,by go_num,by rw[HQ.out];exact HF3⟩
       case measure=>simp[intOf]
      ·obtain⟨n,rfl⟩:∃n:Nat,y=(n:Int):=⟨y.toNat,by omega⟩
       have hn0:(0:Int)<(n:Int):=by omega
       have hn1:(1:Int)<(n:Int):=by omega
       have hq:tx 2=tx 1++[121]++Lib.decDigits n:=by rw[HK.out,jO (by omega)];simp
       have HQ:=aA hq;clear hq;obtain⟨D,hD⟩:∃D,Lib.decDigits n=D:=⟨_,rfl⟩
       have hl:D.length≤2:=by rw[←hD];exact gP (by omega)
       have hci:=fun u=>rF n (by omega) u;rw[hD]at HQ;simp only[hD]at hci;have HCI:=aA hci
       clear hci hD;go_wp2_with fail;refine(HF.out.byte hBw (by omega) 121).mono ?_;rintro r w3 ⟨rfl,hF3⟩;have HF3:=aA hF3
       clear hF3;go_wp2_with fail;refine(HCI.out _).mono ?_;rintro r w4 ⟨rfl,hw4⟩;obtain rfl:=hw4.symm;clear hw4;go_wp2_with fail;refine(HF3.out.str hBw (by simp;omega) D (by omega)).mono ?_;rintro r w5 ⟨⟨v5,rfl⟩,hF5⟩;have HF5:=aA hF5
       clear hF5;go_wp2;go_roundw;case rel=>exact⟨2,by omega,by go_num,by rw[HQ.out];exact HF5⟩
       case measure=>simp[intOf]
    ·have HK:=key 100 d rfl rfl;clear key;by_cases h0:d=0
     ·subst h0;have hq:tx 3=tx 2:=by rw[HK.out];exact List.append_nil _
      have HQ:=aA hq;clear hq;go_wp2;go_roundw;case rel=>exact⟨3,by omega,by go_num,by rw[HQ.out];exact HF⟩
      case measure=>simp[intOf]
     ·by_cases h1:d=1
      ·subst h1;go_wp2_with fail;refine(HF.out.byte hBw (by omega) 100).mono ?_;rintro r w3 ⟨rfl,hF3⟩;have HF3:=aA hF3
       clear hF3;have hq:tx 3=tx 2++[100]:=HK.out
       have HQ:=aA hq;clear hq;go_wp2;go_roundw;case rel=>exact⟨3,by omega,by go_num,by rw[HQ.out];exact HF3⟩
       case measure=>simp[intOf]
      ·obtain⟨n,rfl⟩:∃n:Nat,d=(n:Int):=⟨d.toNat,by omega⟩
       have hn0:(0:Int)<(n:Int):=by omega
       have hn1:(1:Int)<(n:Int):=by omega
       have hq:tx 3=tx 2++[100]++Lib.decDigits n:=by rw[HK.out,jO (by omega)];simp
       have HQ:=aA hq;clear hq;obtain⟨D,hD⟩:∃D,Lib.decDigits n=D:=⟨_,rfl⟩
       have hl:D.length≤2:=by rw[←hD];exact gP (by omega)
       have hci:=fun u=>rF n (by omega) u;rw[hD]at HQ;simp only[hD]at hci;have HCI:=aA hci
       clear hci hD;go_wp2_with fail;refine(HF.out.byte hBw (by omega) 100).mono ?_;rintro r w3 ⟨rfl,hF3⟩;have HF3:=aA hF3
       clear hF3;go_wp2_with fail;refine(HCI.out _).mono ?_;rintro r w4 ⟨rfl,hw4⟩;obtain rfl:=hw4.symm;clear hw4;go_wp2_with fail;refine(HF3.out.str hBw (by simp;omega) D (by omega)).mono ?_;rintro r w5 ⟨⟨v5,rfl⟩,hF5⟩;have HF5:=aA hF5
       clear hF5;go_wp2;go_roundw;case rel=>exact⟨3,by omega,by go_num,by rw[HQ.out];exact HF5⟩
       case measure=>simp[intOf]
    ·have HK:=key 101 e rfl rfl;clear key;by_cases h0:e=0
     ·subst h0;have hq:tx 4=tx 3:=by rw[HK.out];exact List.append_nil _
      have HQ:=aA hq;clear hq;go_wp2;go_roundw;case rel=>exact⟨4,by omega,by go_num,by rw[HQ.out];exact HF⟩
      case measure=>simp[intOf]
     ·by_cases h1:e=1
      ·subst h1;go_wp2_with fail;refine(HF.out.byte hBw (by omega) 101).mono ?_;rintro r w3 ⟨rfl,hF3⟩;have HF3:=aA hF3
       clear hF3;have hq:tx 4=tx 3++[101]:=HK.out
       have HQ:=aA hq;clear hq;go_wp2;go_roundw;case rel=>exact⟨4,by omega,by go_num,by rw[HQ.out];exact HF3⟩
       case measure=>simp[intOf]
      ·obtain⟨n,rfl⟩:∃n:Nat,e=(n:Int):=⟨e.toNat,by omega⟩
       have hn0:(0:Int)<(n:Int):=by omega
       have hn1:(1:Int)<(n:Int):=by omega
       have hq:tx 4=tx 3++[101]++Lib.decDigits n:=by rw[HK.out,jO (by omega)];simp
       have HQ:=aA hq;clear hq;obtain⟨D,hD⟩:∃D,Lib.decDigits n=D:=⟨_,rfl⟩
       have hl:D.length≤2:=by rw[←hD];exact gP (by omega)
       have hci:=fun u=>rF n (by omega) u;rw[hD]at HQ;simp only[hD]at hci;have HCI:=aA hci
       clear hci hD;go_wp2_with fail;refine(HF.out.byte hBw (by omega) 101).mono ?_;rintro r w3 ⟨rfl,hF3⟩;have HF3:=aA hF3
       clear hF3;go_wp2_with fail;refine(HCI.out _).mono ?_;rintro r w4 ⟨rfl,hw4⟩;obtain rfl:=hw4.symm;clear hw4;go_wp2_with fail;refine(HF3.out.str hBw (by simp;omega) D (by omega)).mono ?_;rintro r w5 ⟨⟨v5,rfl⟩,hF5⟩;have HF5:=aA hF5
       clear hF5;go_wp2;go_roundw;case rel=>exact⟨4,by omega,by go_num,by rw[HQ.out];exact HF5⟩
       case measure=>simp[intOf]
open Go.Shelf Go.RowKit
end Go.Proofs.YtoglomfejgpoeaaGreatDoor
namespace Go.Proofs.YtoglomfejgpoeaaGreatDoor
open Go.RowKit
set_option linter.unusedVariables false
theorem GE:(Tryz.prog.info? 9).map (fun i=>(i.zero,i.size,i.bytes))=some (some (.string ⟨#[]⟩),1,16):=by kernel_rfl
def EJ (xs:List (List UInt8)):List Value:=xs.map fun l=>Value.string ⟨l.toArray⟩
theorem wT (a b:List (List UInt8)):EJ (a++b)=EJ a++EJ b:=by simp[EJ]
theorem AY (s:ByteArray):∀u∈[Value.string s],u.oneCell'=true:=fun u hu=>by
 rw[List.mem_singleton]at hu;subst hu;rfl
abbrev FF (lo:Nat) (v:Value) (xs:List (List UInt8)) (w:World):Prop:=w.ownsRow lo 9 1 v xs.length (EJ xs)
theorem lT {lo:Nat} {g k cp:Nat} {xs:List (List UInt8)} {w:World} (h:FF lo (.slice (some ⟨g,0,none⟩) k cp) xs w):k=xs.length∧lo≤g∧g<w.heap.size:=by
 rcases h.2 with⟨e,_⟩|⟨g',cap',cur,e,h2,h3,_⟩
 ·cases e
 ·cases e;exact⟨rfl,h2,(Array.getElem?_eq_some_iff.1 h3).1⟩
theorem tS {lo:Nat} {g k cp:Nat} {xs:List (List UInt8)} {w:World} (h:FF lo (.slice (some ⟨g,0,none⟩) k cp) xs w) {i:Nat} {l:List UInt8} (hi:xs[i]? =some l):w.cell? ⟨g,i,none⟩=some (.string ⟨l.toArray⟩):=by
 have hl:=(List.getElem?_eq_some_iff.1 hi).1;obtain⟨rfl,_⟩:=lT h;have e:=World.ownsRow.cellAt h i (by omega)
 rw[e];unfold EJ;rw[List.getElem?_map,hi];rfl
structure aH (B:Nat) (w w':World):Prop where
 os:w'.os=w.os
 tape:w'.tape=w.tape
 output:w'.output=w.output
 size:w.heap.size≤w'.heap.size
 block:∀k,k<w.heap.size→k≠B→w'.heap[k]? =w.heap[k]?
theorem aH.refl (B:Nat) (w:World):aH B w w:=⟨rfl,rfl,rfl,Nat.le_refl _,fun _ _ _=>rfl⟩
theorem aH.trans {B:Nat} {a b c:World} (h:aH B a b) (k:aH B b c):aH B a c:=
 ⟨k.os.trans h.os,k.tape.trans h.tape,k.output.trans h.output,gU h.size k.size,fun i hi hn=>(k.block i (dR hi h.size) hn).trans (h.block i hi hn)⟩
theorem aH.alloc {B:Nat} {a w:World} (h:aH B a w) (o:Obj):aH B a (w.alloc o):=
 h.trans ⟨rfl,rfl,rfl,by simp,fun k hk _=>Below.heap_alloc _ _ _ hk⟩
theorem aH.drewN {B:Nat} {a w:World} (h:aH B a w) (n:Nat):aH B a (w.drewN n):=h.trans ⟨rfl,rfl,rfl,Nat.le_refl _,fun _ _ _=>rfl⟩
theorem aH.cell {B:Nat} {w w':World} (h:aH B w w') {b o:Nat} (hb:b<w.heap.size) (hn:b≠B):w'.cell? ⟨b,o,none⟩=w.cell? ⟨b,o,none⟩:=
 kV (w:=w) (h.block b hb hn)
theorem aH.below {B n:Nat} {a w w':World} (k:Below n a w) (h:aH B w w') (hB:n≤B) (hn:n≤w.heap.size):Below n a w':=
 k.trans ⟨h.os,h.tape,h.output,h.size,fun k hk=>h.block k (by omega) (by omega)⟩
end Go.Proofs.YtoglomfejgpoeaaGreatDoor
