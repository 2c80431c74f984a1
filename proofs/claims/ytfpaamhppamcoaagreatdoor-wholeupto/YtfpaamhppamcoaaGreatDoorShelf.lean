/- What the library says of its own functions, laid at this program; no conditions beyond those of each row. -/
import Derived.Shelf.Unicode.ValidAny
import Derived.Shelf.Strings.OnBuilder
import Derived.Shelf.Small.Utf8
import Derived.Shelf.Small.Strs
import Derived.Shelf.Utf8.AppendRune
import Derived.Shelf.Utf8.AppendRunePlain
import Derived.Shelf.Strconv.IsPrint32
import Derived.Shelf.Strconv.Itoa3
import Derived.Shelf.Strconv.ErrVarAll
import Derived.Shelf.Strings.Shaped
import Derived.Shelf.Sort.Plain
import Derived.Shelf.Strings.Prefix
import Derived.Shelf.Strings.Split
import Derived.Shelf.Slices.Turned
import Derived.Shelf.Slices.Clone
import Derived.Shelf.Slices.Cells
import Derived.Shelf.Slices.In.SortNone
import Derived.Shelf.Slices.Empties
import Derived.Test.YtfpaamhppamcoaaGreatDoorProg
namespace Go.Proofs
open Go.Shelf
def Tryz.lays169_ren:Go.Shelf.Ren:=⟨fun|169=>144|n=>n,fun|70=>198|9=>9|0=>0|72=>200|37=>165|127=>192|3=>3|5=>5|n=>n,fun|n=>n⟩
theorem Tryz.lays169:Go.Proofs.Lays.n169 Tryz.prog Tryz.lays169_ren:={
  mixed:=by kernel_rfl
  f169:=Tryz.func144.trans (congrArg some (by kernel_rfl))
  t0:=Tryz.underlying0
  a0:=Tryz.isAgg0
  z0:=Tryz.sizeOf0
  v0:=Tryz.zeroValue0
  t3:=Tryz.underlying3
  a3:=Tryz.isAgg3
  z3:=Tryz.sizeOf3
  v3:=Tryz.zeroValue3
  t9:=Tryz.underlying9
  a9:=Tryz.isAgg9
  z9:=Tryz.sizeOf9
  v9:=Tryz.zeroValue9
  t37:=Tryz.underlying165
  a37:=Tryz.isAgg165
  z37:=Tryz.sizeOf165
  v37:=Tryz.zeroValue165
  t70:=Tryz.underlying198
  a70:=Tryz.isAgg198
  z70:=Tryz.sizeOf198
  v70:=Tryz.zeroValue198
  t72:=Tryz.underlying200
  a72:=Tryz.isAgg200
  z72:=Tryz.sizeOf200
  v72:=Tryz.zeroValue200
  t127:=Tryz.underlying192
  a127:=Tryz.isAgg192
  z127:=Tryz.sizeOf192
  v127:=Tryz.zeroValue192}
theorem Tryz.Builder_Extra_169:Builder.Extra Tryz.prog Tryz.lays169_ren:={
  sizeBuilder:=by kernel_rfl
  liesBuilder:=by kernel_rfl
  t5:=Tryz.underlying5
  a5:=Tryz.isAgg5
  z5:=Tryz.sizeOf5
  v5:=Tryz.zeroValue5
  infoByte:=by kernel_rfl
  cellsByte:=by kernel_rfl
  sizeByte:=by kernel_rfl
  neB5:=by decide}
def Tryz.lays156_ren:Go.Shelf.Ren:=⟨fun|156=>176|165=>201|166=>141|169=>144|240=>173|241=>228|276=>199|277=>258|n=>n,fun|31=>115|9=>9|3=>3|4=>4|0=>0|20=>20|72=>200|76=>201|70=>198|37=>165|75=>148|127=>192|164=>168|5=>5|80=>205|n=>n,fun|n=>n⟩
theorem Tryz.lays156:Go.Proofs.Lays.n156 Tryz.prog Tryz.lays156_ren:={
  mixed:=by kernel_rfl
  f156:=Tryz.func176.trans (congrArg some (by kernel_rfl))
  f165:=Tryz.func201.trans (congrArg some (by kernel_rfl))
  f166:=Tryz.func141.trans (congrArg some (by kernel_rfl))
  f169:=Tryz.func144.trans (congrArg some (by kernel_rfl))
  f240:=Tryz.func173.trans (congrArg some (by kernel_rfl))
  f241:=Tryz.func228.trans (congrArg some (by kernel_rfl))
  f276:=Tryz.func199.trans (congrArg some (by kernel_rfl))
  f277:=Tryz.func258.trans (congrArg some (by kernel_rfl))
  t0:=Tryz.underlying0
  a0:=Tryz.isAgg0
  z0:=Tryz.sizeOf0
  v0:=Tryz.zeroValue0
  t3:=Tryz.underlying3
  a3:=Tryz.isAgg3
  z3:=Tryz.sizeOf3
  v3:=Tryz.zeroValue3
  t4:=Tryz.underlying4
  a4:=Tryz.isAgg4
  z4:=Tryz.sizeOf4
  v4:=Tryz.zeroValue4
  t9:=Tryz.underlying9
  a9:=Tryz.isAgg9
  z9:=Tryz.sizeOf9
  v9:=Tryz.zeroValue9
  t20:=Tryz.underlying20
  a20:=Tryz.isAgg20
  z20:=Tryz.sizeOf20
  v20:=Tryz.zeroValue20
  t31:=Tryz.underlying115
  a31:=Tryz.isAgg115
  z31:=Tryz.sizeOf115
  v31:=Tryz.zeroValue115
  t37:=Tryz.underlying165
  a37:=Tryz.isAgg165
  z37:=Tryz.sizeOf165
  v37:=Tryz.zeroValue165
  t70:=Tryz.underlying198
  a70:=Tryz.isAgg198
  z70:=Tryz.sizeOf198
  v70:=Tryz.zeroValue198
  t72:=Tryz.underlying200
  a72:=Tryz.isAgg200
  z72:=Tryz.sizeOf200
  v72:=Tryz.zeroValue200
  t75:=Tryz.underlying148
  a75:=Tryz.isAgg148
  z75:=Tryz.sizeOf148
  v75:=Tryz.zeroValue148
  t76:=Tryz.underlying201
  a76:=Tryz.isAgg201
  z76:=Tryz.sizeOf201
  v76:=Tryz.zeroValue201
  t127:=Tryz.underlying192
  a127:=Tryz.isAgg192
  z127:=Tryz.sizeOf192
  v127:=Tryz.zeroValue192
  t164:=Tryz.underlying168
  a164:=Tryz.isAgg168
  z164:=Tryz.sizeOf168
  v164:=Tryz.zeroValue168}
theorem Tryz.Builder_Extra_156:Builder.Extra Tryz.prog Tryz.lays156_ren:={
  sizeBuilder:=by kernel_rfl
  liesBuilder:=by kernel_rfl
  t5:=Tryz.underlying5
  a5:=Tryz.isAgg5
  z5:=Tryz.sizeOf5
  v5:=Tryz.zeroValue5
  infoByte:=by kernel_rfl
  cellsByte:=by kernel_rfl
  sizeByte:=by kernel_rfl
  neB5:=by decide}
open Go.RowKit in
theorem Tryz.strings_Join_none (a:Option Addr)(c:Nat)(sep:ByteArray)(w:World):
    Calls Tryz.prog 176 #[.slice a 0 c,.string sep] w fun e w'=>e=.returned (.string ⟨#[]⟩)∧w'=w:=Any.strings_Join_none Tryz.lays156 Tryz.Builder_Extra_156 a c sep w
open Go.RowKit in
theorem Tryz.strings_Join (bk o c:Nat)(xs:List ByteArray)(sep:ByteArray)(w:World)(hcells:∀(j:Nat) x,xs[j]? =some x→w.cell? ⟨bk,o+j,none⟩=some (.string x))(hbk:bk<w.heap.size)(hN:xs.length≤140737488355328)(hcap:xs.length≤c)(hlen:(Lib.join (xs.map (·.data.toList)) sep.data.toList).length≤140737488355328):
    Calls Tryz.prog 176 #[.slice (some ⟨bk,o,none⟩) xs.length c,.string sep] w fun e w'=>e=.returned (.string ⟨(Lib.join (xs.map (·.data.toList)) sep.data.toList).toArray⟩)∧Below w.heap.size w w':=Any.strings_Join Tryz.lays156 Tryz.Builder_Extra_156 bk o c xs sep w hcells hbk hN hcap hlen
def Tryz.lays119_ren:Go.Shelf.Ren:=⟨fun|119=>269|n=>n,fun|21=>21|4=>4|n=>n,fun|n=>n⟩
theorem Tryz.lays119:Go.Proofs.Lays.n119 Tryz.prog Tryz.lays119_ren:={
  mixed:=by kernel_rfl
  f119:=Tryz.func269.trans (congrArg some (by kernel_rfl))
  t4:=Tryz.underlying4
  a4:=Tryz.isAgg4
  z4:=Tryz.sizeOf4
  v4:=Tryz.zeroValue4
  t21:=Tryz.underlying21
  a21:=Tryz.isAgg21
  z21:=Tryz.sizeOf21
  v21:=Tryz.zeroValue21}
theorem Tryz.utf8_ValidRune (r:Int)(w:World):
    Calls Tryz.prog 269 #[.int .i32 r] w fun e w'=>e=.returned (.bool (Lib.validRune r))∧w'=w:=Any.utf8_ValidRune Tryz.lays119 r w
def Tryz.lays106_ren:Go.Shelf.Ren:=⟨fun|106=>81|213=>131|265=>167|n=>n,fun|9=>9|3=>3|n=>n,fun|n=>n⟩
theorem Tryz.lays106:Go.Proofs.Lays.n106 Tryz.prog Tryz.lays106_ren:={
  mixed:=by kernel_rfl
  f106:=Tryz.func81.trans (congrArg some (by kernel_rfl))
  f213:=Tryz.func131.trans (congrArg some (by kernel_rfl))
  f265:=Tryz.func167.trans (congrArg some (by kernel_rfl))
  t3:=Tryz.underlying3
  a3:=Tryz.isAgg3
  z3:=Tryz.sizeOf3
  v3:=Tryz.zeroValue3
  t9:=Tryz.underlying9
  a9:=Tryz.isAgg9
  z9:=Tryz.sizeOf9
  v9:=Tryz.zeroValue9}
open Go.RowKit in
theorem Tryz.Builder_String_any_f (B b:Nat)(l:List UInt8)(w:World)(h:Lib.IsBuilderF 200 5 B b (Lib.byteCells l) w)(hBw:B≤w.heap.size):
    Calls Tryz.prog 144 #[.pointer (some ⟨b,0,none⟩)] w fun e w'=>e=.returned (.string ⟨l.toArray⟩)∧(Lib.IsBuilderF 200 5 B b (Lib.byteCells l) w'∧Below B w w'):=Any.Builder_String_any_f Tryz.lays169 Tryz.Builder_Extra_169 B b l w h hBw
def Tryz.lays339_ren:Go.Shelf.Ren:=⟨fun|339=>278|345=>284|346=>285|n=>n,fun|21=>21|4=>4|49=>337|234=>338|131=>104|3=>3|0=>0|51=>128|236=>340|46=>142|n=>n,fun|20=>7|21=>8|22=>9|23=>10|n=>n⟩
theorem Tryz.lays339:Go.Proofs.Lays.n339 Tryz.prog Tryz.lays339_ren:={
  mixed:=by kernel_rfl
  f339:=Tryz.func278.trans (congrArg some (by kernel_rfl))
  f345:=Tryz.func284.trans (congrArg some (by kernel_rfl))
  f346:=Tryz.func285.trans (congrArg some (by kernel_rfl))
  t0:=Tryz.underlying0
  a0:=Tryz.isAgg0
  z0:=Tryz.sizeOf0
  v0:=Tryz.zeroValue0
  t3:=Tryz.underlying3
  a3:=Tryz.isAgg3
  z3:=Tryz.sizeOf3
  v3:=Tryz.zeroValue3
  t4:=Tryz.underlying4
  a4:=Tryz.isAgg4
  z4:=Tryz.sizeOf4
  v4:=Tryz.zeroValue4
  t21:=Tryz.underlying21
  a21:=Tryz.isAgg21
  z21:=Tryz.sizeOf21
  v21:=Tryz.zeroValue21
  t46:=Tryz.underlying142
  a46:=Tryz.isAgg142
  z46:=Tryz.sizeOf142
  v46:=Tryz.zeroValue142
  t49:=Tryz.underlying337
  a49:=Tryz.isAgg337
  z49:=Tryz.sizeOf337
  v49:=Tryz.zeroValue337
  t51:=Tryz.underlying128
  a51:=Tryz.isAgg128
  z51:=Tryz.sizeOf128
  v51:=Tryz.zeroValue128
  t131:=Tryz.underlying104
  a131:=Tryz.isAgg104
  z131:=Tryz.sizeOf104
  v131:=Tryz.zeroValue104
  t234:=Tryz.underlying338
  a234:=Tryz.isAgg338
  z234:=Tryz.sizeOf338
  v234:=Tryz.zeroValue338
  t236:=Tryz.underlying340
  a236:=Tryz.isAgg340
  z236:=Tryz.sizeOf340
  v236:=Tryz.zeroValue340
  g20:=by kernel_rfl
  g21:=by kernel_rfl
  g22:=by kernel_rfl
  g23:=by kernel_rfl}
open Go.RowKit in
theorem Tryz.strconv_IsPrint_latin (r:Int)(w:World)(hr:r≤255):
    Calls Tryz.prog 278 #[.int .i32 r] w fun e w'=>e=.returned (.bool (Lib.isPrintLatin r))∧w'=w:=Any.strconv_IsPrint_latin Tryz.lays339 r w hr
def Tryz.laysM171_ren:Go.Shelf.Ren:=⟨fun|171=>177|243=>202|246=>229|283=>230|284=>231|285=>232|286=>233|129=>226|317=>259|318=>260|319=>261|320=>262|337=>280|338=>281|n=>n,fun|3=>3|9=>9|2=>2|4=>4|171=>288|0=>0|53=>125|37=>165|5=>5|173=>290|212=>310|51=>128|20=>20|213=>311|46=>142|232=>342|233=>343|n=>n,fun|17=>3|18=>12|19=>13|n=>n⟩
theorem Tryz.laysM171:Go.Proofs.LaysM.n171 Tryz.prog Tryz.laysM171_ren:={
  mixed:=by kernel_rfl
  f129:=Tryz.func226.trans (congrArg some (by kernel_rfl))
  f171:=Tryz.func177.trans (congrArg some (by kernel_rfl))
  f243:=Tryz.func202.trans (congrArg some (by kernel_rfl))
  f246:=Tryz.func229.trans (congrArg some (by kernel_rfl))
  f283:=Tryz.func230.trans (congrArg some (by kernel_rfl))
  f284:=Tryz.func231.trans (congrArg some (by kernel_rfl))
  f285:=Tryz.func232.trans (congrArg some (by kernel_rfl))
  f286:=Tryz.func233.trans (congrArg some (by kernel_rfl))
  f317:=Tryz.func259.trans (congrArg some (by kernel_rfl))
  f318:=Tryz.func260.trans (congrArg some (by kernel_rfl))
  f319:=Tryz.func261.trans (congrArg some (by kernel_rfl))
  f320:=Tryz.func262.trans (congrArg some (by kernel_rfl))
  f337:=Tryz.func280.trans (congrArg some (by kernel_rfl))
  f338:=Tryz.func281.trans (congrArg some (by kernel_rfl))
  t0:=Tryz.underlying0
  a0:=Tryz.isAgg0
  z0:=Tryz.sizeOf0
  v0:=Tryz.zeroValue0
  t2:=Tryz.underlying2
  a2:=Tryz.isAgg2
  z2:=Tryz.sizeOf2
  v2:=Tryz.zeroValue2
  t3:=Tryz.underlying3
  a3:=Tryz.isAgg3
  z3:=Tryz.sizeOf3
  v3:=Tryz.zeroValue3
  t4:=Tryz.underlying4
  a4:=Tryz.isAgg4
  z4:=Tryz.sizeOf4
  v4:=Tryz.zeroValue4
  t5:=Tryz.underlying5
  a5:=Tryz.isAgg5
  z5:=Tryz.sizeOf5
  v5:=Tryz.zeroValue5
  t9:=Tryz.underlying9
  a9:=Tryz.isAgg9
  z9:=Tryz.sizeOf9
  v9:=Tryz.zeroValue9
  t20:=Tryz.underlying20
  a20:=Tryz.isAgg20
  z20:=Tryz.sizeOf20
  v20:=Tryz.zeroValue20
  t37:=Tryz.underlying165
  a37:=Tryz.isAgg165
  z37:=Tryz.sizeOf165
  v37:=Tryz.zeroValue165
  t46:=Tryz.underlying142
  a46:=Tryz.isAgg142
  z46:=Tryz.sizeOf142
  v46:=Tryz.zeroValue142
  t51:=Tryz.underlying128
  a51:=Tryz.isAgg128
  z51:=Tryz.sizeOf128
  v51:=Tryz.zeroValue128
  t53:=Tryz.underlying125
  a53:=Tryz.isAgg125
  z53:=Tryz.sizeOf125
  v53:=Tryz.zeroValue125
  t171:=Tryz.underlying288
  a171:=Tryz.isAgg288
  z171:=Tryz.sizeOf288
  v171:=Tryz.zeroValue288
  t173:=Tryz.underlying290
  a173:=Tryz.isAgg290
  z173:=Tryz.sizeOf290
  v173:=Tryz.zeroValue290
  t212:=Tryz.underlying310
  a212:=Tryz.isAgg310
  z212:=Tryz.sizeOf310
  v212:=Tryz.zeroValue310
  t213:=Tryz.underlying311
  a213:=Tryz.isAgg311
  z213:=Tryz.sizeOf311
  t232:=Tryz.underlying342
  a232:=Tryz.isAgg342
  z232:=Tryz.sizeOf342
  v232:=Tryz.zeroValue342
  t233:=Tryz.underlying343
  a233:=Tryz.isAgg343
  z233:=Tryz.sizeOf343
  v233:=Tryz.zeroValue343
  g17:=by kernel_rfl
  g18:=by kernel_rfl
  g19:=by kernel_rfl
  i0:=by kernel_rfl
  i2:=by kernel_rfl
  i3:=by kernel_rfl
  i4:=by kernel_rfl
  i5:=by kernel_rfl
  i9:=by kernel_rfl
  i20:=by kernel_rfl
  i37:=by kernel_rfl
  i46:=by kernel_rfl
  i51:=by kernel_rfl
  i53:=by kernel_rfl
  i171:=by kernel_rfl
  i173:=by kernel_rfl
  i212:=by kernel_rfl
  i232:=by kernel_rfl
  i233:=by kernel_rfl
  m17:=by kernel_rfl
  m18:=by kernel_rfl
  m19:=by kernel_rfl}
open Go.RowKit Go.Sort Go.Lib in
theorem Tryz.strconv_Itoa (n:Int)(h0: -9223372036854775808≤n)(h1:n≤9223372036854775807)(w:World)(htab:Lib.TabIs Tryz.prog w "internal/strconv.uint64pow10" .u64 Lib.pow10Tab):
    Calls Tryz.prog 177 #[.int .i64 n] w fun e w'=>e=.returned (.string ⟨(Lib.itoa n).toArray⟩)∧∃k os,w'=grow (w.drewN k) os:=Any.strconv_Itoa Tryz.laysM171 n h0 h1 w htab
def Tryz.laysM316_ren:Go.Shelf.Ren:=⟨fun|316=>86|n=>n,fun|9=>9|3=>3|4=>4|37=>165|0=>0|127=>192|5=>5|n=>n,fun|n=>n⟩
theorem Tryz.laysM316:Go.Proofs.LaysM.n316 Tryz.prog Tryz.laysM316_ren:={
  mixed:=by kernel_rfl
  f316:=Tryz.func86.trans (congrArg some (by kernel_rfl))
  t0:=Tryz.underlying0
  a0:=Tryz.isAgg0
  z0:=Tryz.sizeOf0
  v0:=Tryz.zeroValue0
  t3:=Tryz.underlying3
  a3:=Tryz.isAgg3
  z3:=Tryz.sizeOf3
  v3:=Tryz.zeroValue3
  t4:=Tryz.underlying4
  a4:=Tryz.isAgg4
  z4:=Tryz.sizeOf4
  v4:=Tryz.zeroValue4
  t9:=Tryz.underlying9
  a9:=Tryz.isAgg9
  z9:=Tryz.sizeOf9
  v9:=Tryz.zeroValue9
  t37:=Tryz.underlying165
  a37:=Tryz.isAgg165
  z37:=Tryz.sizeOf165
  v37:=Tryz.zeroValue165
  t127:=Tryz.underlying192
  a127:=Tryz.isAgg192
  z127:=Tryz.sizeOf192
  v127:=Tryz.zeroValue192
  t5:=Tryz.underlying5
  a5:=Tryz.isAgg5
  z5:=Tryz.sizeOf5
  v5:=Tryz.zeroValue5
  i0:=by kernel_rfl
  i3:=by kernel_rfl
  i4:=by kernel_rfl
  i5:=by kernel_rfl
  i9:=by kernel_rfl
  i37:=by kernel_rfl
  i127:=by kernel_rfl}
def Tryz.lays189_ren:Go.Shelf.Ren:=⟨fun|189=>172|125=>198|257=>197|128=>225|129=>226|294=>217|295=>218|296=>219|297=>220|298=>221|299=>222|216=>212|300=>223|301=>224|328=>252|329=>253|330=>254|331=>255|332=>256|215=>251|343=>277|n=>n,fun|28=>23|3=>3|46=>142|0=>0|51=>128|53=>125|4=>4|183=>281|182=>280|131=>104|5=>5|9=>9|218=>302|222=>305|228=>329|229=>330|n=>n,fun|n=>n⟩
theorem Tryz.lays189:Go.Proofs.Lays.n189 Tryz.prog Tryz.lays189_ren:={
  mixed:=by kernel_rfl
  f125:=Tryz.func198.trans (congrArg some (by kernel_rfl))
  f128:=Tryz.func225.trans (congrArg some (by kernel_rfl))
  f129:=Tryz.func226.trans (congrArg some (by kernel_rfl))
  f189:=Tryz.func172.trans (congrArg some (by kernel_rfl))
  f215:=Tryz.func251.trans (congrArg some (by kernel_rfl))
  f216:=Tryz.func212.trans (congrArg some (by kernel_rfl))
  f257:=Tryz.func197.trans (congrArg some (by kernel_rfl))
  f294:=Tryz.func217.trans (congrArg some (by kernel_rfl))
  f295:=Tryz.func218.trans (congrArg some (by kernel_rfl))
  f296:=Tryz.func219.trans (congrArg some (by kernel_rfl))
  f297:=Tryz.func220.trans (congrArg some (by kernel_rfl))
  f298:=Tryz.func221.trans (congrArg some (by kernel_rfl))
  f299:=Tryz.func222.trans (congrArg some (by kernel_rfl))
  f300:=Tryz.func223.trans (congrArg some (by kernel_rfl))
  f301:=Tryz.func224.trans (congrArg some (by kernel_rfl))
  f328:=Tryz.func252.trans (congrArg some (by kernel_rfl))
  f329:=Tryz.func253.trans (congrArg some (by kernel_rfl))
  f330:=Tryz.func254.trans (congrArg some (by kernel_rfl))
  f331:=Tryz.func255.trans (congrArg some (by kernel_rfl))
  f332:=Tryz.func256.trans (congrArg some (by kernel_rfl))
  f343:=Tryz.func277.trans (congrArg some (by kernel_rfl))
  t0:=Tryz.underlying0
  a0:=Tryz.isAgg0
  z0:=Tryz.sizeOf0
  v0:=Tryz.zeroValue0
  t3:=Tryz.underlying3
  a3:=Tryz.isAgg3
  z3:=Tryz.sizeOf3
  v3:=Tryz.zeroValue3
  t4:=Tryz.underlying4
  a4:=Tryz.isAgg4
  z4:=Tryz.sizeOf4
  v4:=Tryz.zeroValue4
  t5:=Tryz.underlying5
  a5:=Tryz.isAgg5
  z5:=Tryz.sizeOf5
  v5:=Tryz.zeroValue5
  t9:=Tryz.underlying9
  a9:=Tryz.isAgg9
  z9:=Tryz.sizeOf9
  v9:=Tryz.zeroValue9
  t28:=Tryz.underlying23
  a28:=Tryz.isAgg23
  z28:=Tryz.sizeOf23
  v28:=Tryz.zeroValue23
  t46:=Tryz.underlying142
  a46:=Tryz.isAgg142
  z46:=Tryz.sizeOf142
  v46:=Tryz.zeroValue142
  t51:=Tryz.underlying128
  a51:=Tryz.isAgg128
  z51:=Tryz.sizeOf128
  v51:=Tryz.zeroValue128
  t53:=Tryz.underlying125
  a53:=Tryz.isAgg125
  z53:=Tryz.sizeOf125
  v53:=Tryz.zeroValue125
  t131:=Tryz.underlying104
  a131:=Tryz.isAgg104
  z131:=Tryz.sizeOf104
  v131:=Tryz.zeroValue104
  t182:=Tryz.underlying280
  a182:=Tryz.isAgg280
  z182:=Tryz.sizeOf280
  v182:=Tryz.zeroValue280
  t183:=Tryz.underlying281
  a183:=Tryz.isAgg281
  z183:=Tryz.sizeOf281
  v183:=Tryz.zeroValue281
  t218:=Tryz.underlying302
  a218:=Tryz.isAgg302
  z218:=Tryz.sizeOf302
  v218:=Tryz.zeroValue302
  t222:=Tryz.underlying305
  a222:=Tryz.isAgg305
  z222:=Tryz.sizeOf305
  v222:=Tryz.zeroValue305
  t228:=Tryz.underlying329
  a228:=Tryz.isAgg329
  z228:=Tryz.sizeOf329
  v228:=Tryz.zeroValue329
  t229:=Tryz.underlying330
  a229:=Tryz.isAgg330
  z229:=Tryz.sizeOf330
  v229:=Tryz.zeroValue330}
def Tryz.lays197_ren:Go.Shelf.Ren:=⟨fun|197=>245|260=>267|n=>n,fun|9=>9|21=>21|3=>3|4=>4|5=>5|105=>295|119=>316|0=>0|46=>142|139=>319|138=>318|n=>n,fun|3=>4|4=>5|n=>n⟩
theorem Tryz.lays197:Go.Proofs.Lays.n197 Tryz.prog Tryz.lays197_ren:={
  mixed:=by kernel_rfl
  f197:=Tryz.func245.trans (congrArg some (by kernel_rfl))
  f260:=Tryz.func267.trans (congrArg some (by kernel_rfl))
  t0:=Tryz.underlying0
  a0:=Tryz.isAgg0
  z0:=Tryz.sizeOf0
  v0:=Tryz.zeroValue0
  t3:=Tryz.underlying3
  a3:=Tryz.isAgg3
  z3:=Tryz.sizeOf3
  v3:=Tryz.zeroValue3
  t4:=Tryz.underlying4
  a4:=Tryz.isAgg4
  z4:=Tryz.sizeOf4
  v4:=Tryz.zeroValue4
  t5:=Tryz.underlying5
  a5:=Tryz.isAgg5
  z5:=Tryz.sizeOf5
  v5:=Tryz.zeroValue5
  t9:=Tryz.underlying9
  a9:=Tryz.isAgg9
  z9:=Tryz.sizeOf9
  v9:=Tryz.zeroValue9
  t21:=Tryz.underlying21
  a21:=Tryz.isAgg21
  z21:=Tryz.sizeOf21
  v21:=Tryz.zeroValue21
  t46:=Tryz.underlying142
  a46:=Tryz.isAgg142
  z46:=Tryz.sizeOf142
  v46:=Tryz.zeroValue142
  t105:=Tryz.underlying295
  a105:=Tryz.isAgg295
  z105:=Tryz.sizeOf295
  v105:=Tryz.zeroValue295
  t119:=Tryz.underlying316
  a119:=Tryz.isAgg316
  z119:=Tryz.sizeOf316
  t138:=Tryz.underlying318
  a138:=Tryz.isAgg318
  z138:=Tryz.sizeOf318
  v138:=Tryz.zeroValue318
  t139:=Tryz.underlying319
  a139:=Tryz.isAgg319
  z139:=Tryz.sizeOf319
  v139:=Tryz.zeroValue319
  g3:=by kernel_rfl
  g4:=by kernel_rfl}
open Go.RowKit Go.Lib in
theorem Tryz.utf8_DecodeRuneInString (s:ByteArray)(w:World)(hT:Lib.Utf8Tabs 4 5 w):
    Calls Tryz.prog 245 #[.string s] w fun e w'=>e=.returned (.tuple #[.int .i32 (Lib.decodeGo s).1,.int .i64 (Lib.decodeGo s).2])∧Below w.heap.size w w':=Any.utf8_DecodeRuneInString Tryz.lays197 s w hT
def Tryz.laysNm215_ren:Go.Shelf.Ren:=⟨fun|15=>75|n=>n,fun|22=>23|3=>3|4=>4|n=>n,fun|n=>n⟩
theorem Tryz.laysNm215:Go.Proofs.Lays2.n15 Tryz.prog Tryz.laysNm215_ren:={
  mixed:=by kernel_rfl
  f15:=Tryz.func75.trans (congrArg some (by kernel_rfl))
  t3:=Tryz.underlying3
  a3:=Tryz.isAgg3
  z3:=Tryz.sizeOf3
  v3:=Tryz.zeroValue3
  t4:=Tryz.underlying4
  a4:=Tryz.isAgg4
  z4:=Tryz.sizeOf4
  v4:=Tryz.zeroValue4
  t22:=Tryz.underlying23
  a22:=Tryz.isAgg23
  z22:=Tryz.sizeOf23
  v22:=Tryz.zeroValue23
  i3:=by kernel_rfl}
end Go.Proofs
