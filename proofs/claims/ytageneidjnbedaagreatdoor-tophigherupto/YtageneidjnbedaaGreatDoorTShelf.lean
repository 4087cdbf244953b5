import Derived.Shelf.Strings.OnBuilder
import Derived.Shelf.Small.Bits
import Derived.Shelf.Small.Strs
import Derived.Shelf.Strconv.Itoa3
import Derived.Shelf.Strconv.ErrVar
import Derived.Shelf.Strconv.AtoiAll
import Derived.Shelf.Strings.Shaped
import Derived.Shelf.Sort.Plain
import Derived.Shelf.Bits.Mul64
import Derived.Shelf.Slices.Clone
import Derived.Shelf.Slices.SearchI
import Derived.Shelf.Slices.Cells
import Derived.Shelf.Slices.In.SortNone
import Derived.Shelf.SlicesE.Clone
import Derived.Test.YtageneidjnbedaaGreatDoorTZAL
namespace Go.Proofs
theorem ZKF{α:Type}{x:Option α}{a b:α}(p:x=some a)(h:a=b:=by kernel_rfl):x=some b:=p.trans (congrArg some h)
open Tryz
open Go.Shelf
def Tryz.lays156_ren:Go.Shelf.Ren:=⟨λ|156=>85|165=>123|166=>124|169=>125|240=>181|241=>182|276=>224|277=>225|n=>n,λ|31=>22|9=>9|3=>3|4=>4|0=>0|20=>20|72=>198|76=>202|70=>196|37=>151|75=>201|127=>152|164=>295|5=>5|80=>102|n=>n,λ|n=>n⟩
theorem Tryz.lays156:Go.Proofs.Lays.n156 prog lays156_ren:=⟨(by kernel_rfl),ZKF func85,ZKF func123,ZKF func124,ZKF func125,ZKF func181,ZKF func182,ZKF func224,ZKF func225,underlying0,isAgg0,sizeOf0,zeroValue0,underlying3,isAgg3,sizeOf3,zeroValue3,underlying4,isAgg4,sizeOf4,zeroValue4,underlying9,isAgg9,sizeOf9,zeroValue9,underlying20,isAgg20,sizeOf20,zeroValue20,underlying22,isAgg22,sizeOf22,zeroValue22,underlying151,isAgg151,sizeOf151,zeroValue151,underlying196,isAgg196,sizeOf196,zeroValue196,underlying198,isAgg198,sizeOf198,zeroValue198,underlying201,isAgg201,sizeOf201,zeroValue201,underlying202,isAgg202,sizeOf202,zeroValue202,underlying152,isAgg152,sizeOf152,zeroValue152,underlying295,isAgg295,sizeOf295,zeroValue295⟩
theorem Tryz.Builder_Extra_156:Builder.Extra prog lays156_ren:={
 sizeBuilder:=by kernel_rfl
 liesBuilder:=by kernel_rfl
 t5:=underlying5
 a5:=isAgg5
 z5:=sizeOf5
 v5:=zeroValue5
 infoByte:=by kernel_rfl
 cellsByte:=by kernel_rfl
 sizeByte:=by kernel_rfl
 neB5:=by decide }
open Go.RowKit in
theorem Tryz.strings_Join_none(a:Option Addr)(c:Nat)(sep:ByteArray)(w:World):
  Calls prog 85 #[.slice a 0 c,.string sep] w λe w'=>e=.returned (.string ⟨#[]⟩)/\w'=w:=Any.strings_Join_none lays156 Builder_Extra_156 a c sep w
open Go.RowKit in
theorem Tryz.strings_Join(bk o c:Nat)(xs:List ByteArray)(sep:ByteArray)(w:World)(hcells:∀(j:Nat) x,xs[j]?=some x->w.cell? ⟨bk,o+j,none⟩=some (.string x))(hbk:bk<w.heap.size)(hN:xs.length<=140737488355328)(hcap:xs.length<=c)(hlen:(Lib.join (xs.map (·.data.toList)) sep.data.toList).length<=140737488355328):
  Calls prog 85 #[.slice (some ⟨bk,o,none⟩) xs.length c,.string sep] w λe w'=>e=.returned (.string ⟨(Lib.join (xs.map (·.data.toList)) sep.data.toList).toArray⟩)/\Below w.heap.size w w':=Any.strings_Join lays156 Builder_Extra_156 bk o c xs sep w hcells hbk hN hcap hlen
def Tryz.lays137_ren:Go.Shelf.Ren:=⟨λ|137=>81|217=>116|266=>175|n=>n,λ|9=>9|5=>5|3=>3|n=>n,λ|n=>n⟩
theorem Tryz.lays137:Go.Proofs.Lays.n137 prog lays137_ren:=⟨(by kernel_rfl),ZKF func81,ZKF func116,ZKF func175,underlying3,isAgg3,sizeOf3,zeroValue3,underlying5,isAgg5,sizeOf5,zeroValue5,underlying9,isAgg9,sizeOf9,zeroValue9⟩
open Go.RowKit in
theorem Tryz.strings_IndexByte(s:ByteArray)(c:Int)(w:World):
  Calls prog 81 #[.string s,.int .u8 c] w λe w'=>e=.returned (.int .i64 (Lib.indexByte s.data.toList c.toNat.toUInt8))/\w'=w:=Any.strings_IndexByte lays137 s c w
def Tryz.laysC172_ren:Go.Shelf.Ren:=⟨λ|172=>180|244=>222|245=>223|247=>243|279=>244|280=>245|281=>246|282=>247|287=>261|316=>58|171=>128|205=>262|321=>277|322=>278|243=>183|246=>226|283=>248|284=>249|285=>250|286=>251|129=>142|317=>263|318=>264|319=>265|320=>266|337=>279|338=>280|n=>n,λ|9=>9|3=>3|75=>201|76=>202|4=>4|5=>5|167=>314|37=>151|0=>0|85=>315|2=>2|168=>317|53=>220|175=>331|46=>164|210=>334|127=>152|145=>348|143=>346|21=>21|171=>320|173=>322|212=>337|51=>218|20=>20|213=>338|232=>351|233=>352|80=>102|n=>n,λ|15=>1|16=>2|17=>3|18=>4|19=>5|n=>n⟩
theorem Tryz.laysC172:Go.Proofs.LaysC.n172 prog laysC172_ren:=⟨⟨⟨(by kernel_rfl),ZKF func142,ZKF func128,ZKF func180,ZKF func262,ZKF func183,ZKF func222,ZKF func223,ZKF func226,ZKF func243,ZKF func244,ZKF func245,ZKF func246,ZKF func247,ZKF func248,ZKF func249,ZKF func250,ZKF func251,ZKF func261,ZKF func58,ZKF func263,ZKF func264,ZKF func265,ZKF func266,ZKF func277,ZKF func278,ZKF func279,ZKF func280,underlying0,isAgg0,sizeOf0,zeroValue0,underlying2,isAgg2,sizeOf2,zeroValue2,underlying3,isAgg3,sizeOf3,zeroValue3,underlying4,isAgg4,sizeOf4,zeroValue4,underlying5,isAgg5,sizeOf5,zeroValue5,underlying9,isAgg9,sizeOf9,zeroValue9,underlying20,isAgg20,sizeOf20,zeroValue20,underlying21,isAgg21,sizeOf21,zeroValue21,underlying151,isAgg151,sizeOf151,zeroValue151,underlying164,isAgg164,sizeOf164,zeroValue164,underlying218,isAgg218,sizeOf218,zeroValue218,underlying220,isAgg220,sizeOf220,zeroValue220,underlying201,isAgg201,sizeOf201,zeroValue201,underlying202,isAgg202,sizeOf202,zeroValue202,underlying315,isAgg315,sizeOf315,zeroValue315,underlying152,isAgg152,sizeOf152,zeroValue152,underlying346,isAgg346,sizeOf346,zeroValue346,underlying348,isAgg348,sizeOf348,zeroValue348,underlying314,isAgg314,sizeOf314,zeroValue314,underlying317,isAgg317,sizeOf317,zeroValue317,underlying320,isAgg320,sizeOf320,zeroValue320,underlying322,isAgg322,sizeOf322,zeroValue322,underlying331,isAgg331,sizeOf331,zeroValue331,underlying334,isAgg334,sizeOf334,zeroValue334,underlying337,isAgg337,sizeOf337,zeroValue337,underlying338,isAgg338,sizeOf338,underlying351,isAgg351,sizeOf351,zeroValue351,underlying352,isAgg352,sizeOf352,zeroValue352,(by kernel_rfl),(by kernel_rfl),(by kernel_rfl),(by kernel_rfl),(by kernel_rfl)⟩,underlying102,isAgg102,sizeOf102,zeroValue102,(by kernel_rfl),(by kernel_rfl),(by kernel_rfl),(by kernel_rfl),(by kernel_rfl),(by kernel_rfl),(by kernel_rfl),(by kernel_rfl),(by kernel_rfl),(by kernel_rfl),(by kernel_rfl),(by kernel_rfl),(by kernel_rfl),(by kernel_rfl),(by kernel_rfl),(by kernel_rfl),(by kernel_rfl),(by kernel_rfl),(by kernel_rfl),(by kernel_rfl),(by kernel_rfl),(by kernel_rfl),(by kernel_rfl),(by kernel_rfl),(by kernel_rfl),(by kernel_rfl),(by kernel_rfl),(by kernel_rfl),(by kernel_rfl),(by kernel_rfl),(by kernel_rfl),(by kernel_rfl),(by kernel_rfl)⟩,(by kernel_rfl),(by kernel_rfl),(by kernel_rfl),(by kernel_rfl),(by kernel_rfl),(by kernel_rfl),(by kernel_rfl),(by kernel_rfl),(by kernel_rfl),(by kernel_rfl),(by kernel_rfl),(by kernel_rfl),(by kernel_rfl),(by kernel_rfl),(by kernel_rfl),(by kernel_rfl),(by kernel_rfl),(by kernel_rfl),(by kernel_rfl),(by kernel_rfl),(by kernel_rfl),(by kernel_rfl),(by kernel_rfl),(by kernel_rfl),(by kernel_rfl),(by kernel_rfl),(by kernel_rfl),(by kernel_rfl),(by kernel_rfl)⟩
open Go.RowKit in
theorem Tryz.strconv_Atoi(s:ByteArray)(n:Int)(hl:s.size<=18)(h:Lib.atoi s.data.toList=some n)(w:World):
  Calls prog 180 #[.string s] w λe w'=>e=.returned (.tuple #[.int .i64 n,.nilIface])/\∃t,w'=Lib.bytesWorld w 5 t:=Any.strconv_Atoi laysC172.toM.ton172 s n hl h w
def Tryz.laysM171_ren:Go.Shelf.Ren:=⟨λ|171=>128|243=>183|246=>226|283=>248|284=>249|285=>250|286=>251|129=>142|317=>263|318=>264|319=>265|320=>266|337=>279|338=>280|n=>n,λ|3=>3|9=>9|2=>2|4=>4|171=>320|0=>0|53=>220|37=>151|5=>5|173=>322|212=>337|51=>218|20=>20|213=>338|46=>164|232=>351|233=>352|n=>n,λ|17=>3|18=>4|19=>5|n=>n⟩
theorem Tryz.laysM171:Go.Proofs.LaysM.n171 prog laysM171_ren:=⟨⟨(by kernel_rfl),ZKF func142,ZKF func128,ZKF func183,ZKF func226,ZKF func248,ZKF func249,ZKF func250,ZKF func251,ZKF func263,ZKF func264,ZKF func265,ZKF func266,ZKF func279,ZKF func280,underlying0,isAgg0,sizeOf0,zeroValue0,underlying2,isAgg2,sizeOf2,zeroValue2,underlying3,isAgg3,sizeOf3,zeroValue3,underlying4,isAgg4,sizeOf4,zeroValue4,underlying5,isAgg5,sizeOf5,zeroValue5,underlying9,isAgg9,sizeOf9,zeroValue9,underlying20,isAgg20,sizeOf20,zeroValue20,underlying151,isAgg151,sizeOf151,zeroValue151,underlying164,isAgg164,sizeOf164,zeroValue164,underlying218,isAgg218,sizeOf218,zeroValue218,underlying220,isAgg220,sizeOf220,zeroValue220,underlying320,isAgg320,sizeOf320,zeroValue320,underlying322,isAgg322,sizeOf322,zeroValue322,underlying337,isAgg337,sizeOf337,zeroValue337,underlying338,isAgg338,sizeOf338,underlying351,isAgg351,sizeOf351,zeroValue351,underlying352,isAgg352,sizeOf352,zeroValue352,(by kernel_rfl),(by kernel_rfl),(by kernel_rfl)⟩,(by kernel_rfl),(by kernel_rfl),(by kernel_rfl),(by kernel_rfl),(by kernel_rfl),(by kernel_rfl),(by kernel_rfl),(by kernel_rfl),(by kernel_rfl),(by kernel_rfl),(by kernel_rfl),(by kernel_rfl),(by kernel_rfl),(by kernel_rfl),(by kernel_rfl),(by kernel_rfl),(by kernel_rfl),(by kernel_rfl),(by kernel_rfl)⟩
open Go.RowKit Go.Sort Go.Lib in
theorem Tryz.strconv_Itoa(n:Int)(h0:-9223372036854775808<=n)(h1:n<=9223372036854775807)(w:World)(htab:Lib.TabIs prog w "internal/strconv.uint64pow10" .u64 Lib.pow10Tab):
  Calls prog 128 #[.int .i64 n] w λe w'=>e=.returned (.string ⟨(Lib.itoa n).toArray⟩)/\∃k os,w'=grow (w.drewN k) os:=Any.strconv_Itoa laysM171 n h0 h1 w htab
def Tryz.laysM316_ren:Go.Shelf.Ren:=⟨λ|316=>58|n=>n,λ|9=>9|3=>3|4=>4|37=>151|0=>0|127=>152|5=>5|n=>n,λ|n=>n⟩
theorem Tryz.laysM316:Go.Proofs.LaysM.n316 prog laysM316_ren:=⟨⟨(by kernel_rfl),ZKF func58,underlying0,isAgg0,sizeOf0,zeroValue0,underlying3,isAgg3,sizeOf3,zeroValue3,underlying4,isAgg4,sizeOf4,zeroValue4,underlying9,isAgg9,sizeOf9,zeroValue9,underlying151,isAgg151,sizeOf151,zeroValue151,underlying152,isAgg152,sizeOf152,zeroValue152⟩,underlying5,isAgg5,sizeOf5,zeroValue5,(by kernel_rfl),(by kernel_rfl),(by kernel_rfl),(by kernel_rfl),(by kernel_rfl),(by kernel_rfl),(by kernel_rfl)⟩
open Go.RowKit in
theorem Tryz.stringslite_Clone(s:ByteArray)(w:World)(hlim:s.size<=281474976710656):
  Calls prog 58 #[.string s] w λe w'=>e=.returned (.string s)/\Below w.heap.size w w':=Any.stringslite_Clone laysM316 s w hlim
open Go.RowKit in
theorem Tryz.strconv_Atoi_err_var(s:ByteArray)(hl:s.size<=18)(h:Lib.atoi s.data.toList=none)(tp:TypeId)(p:Value)(w:World)(hvar:w.var? prog "strconv.ErrSyntax" = some #[.iface tp p]):
  Calls prog 180 #[.string s] w λe w'=>∃N,e=.returned (.tuple #[.int .i64 0,.iface 317 (.pointer (some ⟨N,0,none⟩))])/\w.heap.size<=N/\w'.heap[N]?=some (.cells #[.string ⟨#[65,116,111,105]⟩,.string s,.iface tp p] 334 (0,0))/\Below w.heap.size w w':=Any.strconv_Atoi_err_var laysC172 s hl h tp p w hvar
def Tryz.lays219_ren:Go.Shelf.Ren:=⟨λ|219=>227|217=>116|225=>252|224=>253|267=>254|266=>175|314=>267|n=>n,λ|9=>9|3=>3|4=>4|5=>5|46=>164|146=>289|51=>218|n=>n,λ|1=>0|n=>n⟩
theorem Tryz.lays219:Go.Proofs.Lays.n219 prog lays219_ren:=⟨(by kernel_rfl),ZKF func116,ZKF func227,ZKF func253,ZKF func252,ZKF func175,ZKF func254,ZKF func267,underlying3,isAgg3,sizeOf3,zeroValue3,underlying4,isAgg4,sizeOf4,zeroValue4,underlying5,isAgg5,sizeOf5,zeroValue5,underlying9,isAgg9,sizeOf9,zeroValue9,underlying164,isAgg164,sizeOf164,zeroValue164,underlying218,isAgg218,sizeOf218,zeroValue218,underlying289,isAgg289,sizeOf289,zeroValue289,(by kernel_rfl)⟩
open Go.RowKit Go.Lib in
theorem Tryz.stringslite_Index_one(s:ByteArray)(c:UInt8)(w:World):
  Calls prog 227 #[.string s,.string ⟨#[c]⟩] w λe w'=>e=.returned (.int .i64 (Lib.indexByte s.data.toList c))/\w'=w:=Any.stringslite_Index_one lays219 s c w
def Tryz.lays144_ren:Go.Shelf.Ren:=⟨λ|144=>130|143=>184|219=>227|217=>116|225=>252|224=>253|267=>254|266=>175|314=>267|n=>n,λ|9=>9|4=>4|3=>3|5=>5|46=>164|146=>289|51=>218|n=>n,λ|1=>0|n=>n⟩
theorem Tryz.lays144:Go.Proofs.Lays.n144 prog lays144_ren:=⟨(by kernel_rfl),ZKF func184,ZKF func130,ZKF func116,ZKF func227,ZKF func253,ZKF func252,ZKF func175,ZKF func254,ZKF func267,underlying3,isAgg3,sizeOf3,zeroValue3,underlying4,isAgg4,sizeOf4,zeroValue4,underlying5,isAgg5,sizeOf5,zeroValue5,underlying9,isAgg9,sizeOf9,zeroValue9,underlying164,isAgg164,sizeOf164,zeroValue164,underlying218,isAgg218,sizeOf218,zeroValue218,underlying289,isAgg289,sizeOf289,zeroValue289,(by kernel_rfl)⟩
open Go.RowKit Go.Lib in
theorem Tryz.strings_Contains_one(s:ByteArray)(c:UInt8)(w:World):
  Calls prog 130 #[.string s,.string ⟨#[c]⟩] w λe w'=>e=.returned (.bool (decide (0<=Lib.indexByte s.data.toList c)))/\w'=w:=Any.strings_Contains_one lays144 s c w
