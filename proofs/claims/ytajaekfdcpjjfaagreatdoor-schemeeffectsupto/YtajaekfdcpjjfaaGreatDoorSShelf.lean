import Derived.Shelf.Small.Bits
import Derived.Shelf.Small.Strs
import Derived.Shelf.Strconv.Itoa3
import Derived.Shelf.Strconv.ErrVar
import Derived.Shelf.Strconv.AtoiAll
import Derived.Shelf.Strings.Shaped
import Derived.Shelf.Sort.Plain
import Derived.Shelf.Bits.Mul64
import Derived.Shelf.Slices.In.SortNone
import Derived.Shelf.SlicesE.Equal
import Derived.Test.YtajaekfdcpjjfaaGreatDoorSZAL
namespace Go.Proofs
theorem ZKF{α:Type}{x:Option α}{a b:α}(p:x=some a)(h:a=b:=by kernel_rfl):x=some b:=p.trans (congrArg some h)
open Tryz
open Go.Shelf
def Tryz.lays137_ren:Go.Shelf.Ren:=⟨λ|137=>210|217=>253|266=>279|n=>n,λ|9=>9|5=>5|3=>3|n=>n,λ|n=>n⟩
theorem Tryz.lays137:Go.Proofs.Lays.n137 prog lays137_ren:=⟨(by kernel_rfl),ZKF func210,ZKF func253,ZKF func279,underlying3,isAgg3,sizeOf3,zeroValue3,underlying5,isAgg5,sizeOf5,zeroValue5,underlying9,isAgg9,sizeOf9,zeroValue9⟩
open Go.RowKit in
theorem Tryz.strings_IndexByte(s:ByteArray)(c:Int)(w:World):
  Calls prog 210 #[.string s,.int .u8 c] w λe w'=>e=.returned (.int .i64 (Lib.indexByte s.data.toList c.toNat.toUInt8))/\w'=w:=Any.strings_IndexByte lays137 s c w
def Tryz.laysC172_ren:Go.Shelf.Ren:=⟨λ|172=>284|244=>291|245=>292|247=>304|279=>305|280=>306|281=>307|282=>308|287=>315|316=>147|171=>317|205=>316|321=>320|322=>321|243=>322|246=>323|283=>324|284=>325|285=>326|286=>327|129=>208|317=>328|318=>329|319=>330|320=>331|337=>332|338=>333|n=>n,λ|9=>9|3=>3|75=>381|76=>382|4=>4|5=>5|167=>393|37=>324|0=>0|85=>394|2=>2|168=>396|53=>323|175=>402|46=>257|210=>405|127=>325|145=>412|143=>410|21=>21|171=>414|173=>416|212=>418|51=>321|20=>20|213=>419|232=>420|233=>421|80=>210|n=>n,λ|15=>1|16=>2|17=>3|18=>4|19=>5|n=>n⟩
theorem Tryz.laysC172:Go.Proofs.LaysC.n172 prog laysC172_ren:=⟨⟨⟨(by kernel_rfl),ZKF func208,ZKF func317,ZKF func284,ZKF func316,ZKF func322,ZKF func291,ZKF func292,ZKF func323,ZKF func304,ZKF func305,ZKF func306,ZKF func307,ZKF func308,ZKF func324,ZKF func325,ZKF func326,ZKF func327,ZKF func315,ZKF func147,ZKF func328,ZKF func329,ZKF func330,ZKF func331,ZKF func320,ZKF func321,ZKF func332,ZKF func333,underlying0,isAgg0,sizeOf0,zeroValue0,underlying2,isAgg2,sizeOf2,zeroValue2,underlying3,isAgg3,sizeOf3,zeroValue3,underlying4,isAgg4,sizeOf4,zeroValue4,underlying5,isAgg5,sizeOf5,zeroValue5,underlying9,isAgg9,sizeOf9,zeroValue9,underlying20,isAgg20,sizeOf20,zeroValue20,underlying21,isAgg21,sizeOf21,zeroValue21,underlying324,isAgg324,sizeOf324,zeroValue324,underlying257,isAgg257,sizeOf257,zeroValue257,underlying321,isAgg321,sizeOf321,zeroValue321,underlying323,isAgg323,sizeOf323,zeroValue323,underlying381,isAgg381,sizeOf381,zeroValue381,underlying382,isAgg382,sizeOf382,zeroValue382,underlying394,isAgg394,sizeOf394,zeroValue394,underlying325,isAgg325,sizeOf325,zeroValue325,underlying410,isAgg410,sizeOf410,zeroValue410,underlying412,isAgg412,sizeOf412,zeroValue412,underlying393,isAgg393,sizeOf393,zeroValue393,underlying396,isAgg396,sizeOf396,zeroValue396,underlying414,isAgg414,sizeOf414,zeroValue414,underlying416,isAgg416,sizeOf416,zeroValue416,underlying402,isAgg402,sizeOf402,zeroValue402,underlying405,isAgg405,sizeOf405,zeroValue405,underlying418,isAgg418,sizeOf418,zeroValue418,underlying419,isAgg419,sizeOf419,underlying420,isAgg420,sizeOf420,zeroValue420,underlying421,isAgg421,sizeOf421,zeroValue421,(by kernel_rfl),(by kernel_rfl),(by kernel_rfl),(by kernel_rfl),(by kernel_rfl)⟩,underlying210,isAgg210,sizeOf210,zeroValue210,(by kernel_rfl),(by kernel_rfl),(by kernel_rfl),(by kernel_rfl),(by kernel_rfl),(by kernel_rfl),(by kernel_rfl),(by kernel_rfl),(by kernel_rfl),(by kernel_rfl),(by kernel_rfl),(by kernel_rfl),(by kernel_rfl),(by kernel_rfl),(by kernel_rfl),(by kernel_rfl),(by kernel_rfl),(by kernel_rfl),(by kernel_rfl),(by kernel_rfl),(by kernel_rfl),(by kernel_rfl),(by kernel_rfl),(by kernel_rfl),(by kernel_rfl),(by kernel_rfl),(by kernel_rfl),(by kernel_rfl),(by kernel_rfl),(by kernel_rfl),(by kernel_rfl),(by kernel_rfl),(by kernel_rfl)⟩,(by kernel_rfl),(by kernel_rfl),(by kernel_rfl),(by kernel_rfl),(by kernel_rfl),(by kernel_rfl),(by kernel_rfl),(by kernel_rfl),(by kernel_rfl),(by kernel_rfl),(by kernel_rfl),(by kernel_rfl),(by kernel_rfl),(by kernel_rfl),(by kernel_rfl),(by kernel_rfl),(by kernel_rfl),(by kernel_rfl),(by kernel_rfl),(by kernel_rfl),(by kernel_rfl),(by kernel_rfl),(by kernel_rfl),(by kernel_rfl),(by kernel_rfl),(by kernel_rfl),(by kernel_rfl),(by kernel_rfl),(by kernel_rfl)⟩
open Go.RowKit in
theorem Tryz.strconv_Atoi(s:ByteArray)(n:Int)(hl:s.size<=18)(h:Lib.atoi s.data.toList=some n)(w:World):
  Calls prog 284 #[.string s] w λe w'=>e=.returned (.tuple #[.int .i64 n,.nilIface])/\∃t,w'=Lib.bytesWorld w 5 t:=Any.strconv_Atoi laysC172.toM.ton172 s n hl h w
def Tryz.laysM316_ren:Go.Shelf.Ren:=⟨λ|316=>147|n=>n,λ|9=>9|3=>3|4=>4|37=>324|0=>0|127=>325|5=>5|n=>n,λ|n=>n⟩
theorem Tryz.laysM316:Go.Proofs.LaysM.n316 prog laysM316_ren:=⟨⟨(by kernel_rfl),ZKF func147,underlying0,isAgg0,sizeOf0,zeroValue0,underlying3,isAgg3,sizeOf3,zeroValue3,underlying4,isAgg4,sizeOf4,zeroValue4,underlying9,isAgg9,sizeOf9,zeroValue9,underlying324,isAgg324,sizeOf324,zeroValue324,underlying325,isAgg325,sizeOf325,zeroValue325⟩,underlying5,isAgg5,sizeOf5,zeroValue5,(by kernel_rfl),(by kernel_rfl),(by kernel_rfl),(by kernel_rfl),(by kernel_rfl),(by kernel_rfl),(by kernel_rfl)⟩
open Go.RowKit in
theorem Tryz.stringslite_Clone(s:ByteArray)(w:World)(hlim:s.size<=281474976710656):
  Calls prog 147 #[.string s] w λe w'=>e=.returned (.string s)/\Below w.heap.size w w':=Any.stringslite_Clone laysM316 s w hlim
open Go.RowKit in
theorem Tryz.strconv_Atoi_err_var(s:ByteArray)(hl:s.size<=18)(h:Lib.atoi s.data.toList=none)(tp:TypeId)(p:Value)(w:World)(hvar:w.var? prog "strconv.ErrSyntax" = some #[.iface tp p]):
  Calls prog 284 #[.string s] w λe w'=>∃N,e=.returned (.tuple #[.int .i64 0,.iface 396 (.pointer (some ⟨N,0,none⟩))])/\w.heap.size<=N/\w'.heap[N]?=some (.cells #[.string ⟨#[65,116,111,105]⟩,.string s,.iface tp p] 405 (0,0))/\Below w.heap.size w w':=Any.strconv_Atoi_err_var laysC172 s hl h tp p w hvar
def Tryz.lays219_ren:Go.Shelf.Ren:=⟨λ|219=>294|217=>253|225=>309|224=>310|267=>311|266=>279|314=>318|n=>n,λ|9=>9|3=>3|4=>4|5=>5|46=>257|146=>345|51=>321|n=>n,λ|1=>0|n=>n⟩
theorem Tryz.lays219:Go.Proofs.Lays.n219 prog lays219_ren:=⟨(by kernel_rfl),ZKF func253,ZKF func294,ZKF func310,ZKF func309,ZKF func279,ZKF func311,ZKF func318,underlying3,isAgg3,sizeOf3,zeroValue3,underlying4,isAgg4,sizeOf4,zeroValue4,underlying5,isAgg5,sizeOf5,zeroValue5,underlying9,isAgg9,sizeOf9,zeroValue9,underlying257,isAgg257,sizeOf257,zeroValue257,underlying321,isAgg321,sizeOf321,zeroValue321,underlying345,isAgg345,sizeOf345,zeroValue345,(by kernel_rfl)⟩
open Go.RowKit Go.Lib in
theorem Tryz.stringslite_Index_one(s:ByteArray)(c:UInt8)(w:World):
  Calls prog 294 #[.string s,.string ⟨#[c]⟩] w λe w'=>e=.returned (.int .i64 (Lib.indexByte s.data.toList c))/\w'=w:=Any.stringslite_Index_one lays219 s c w
def Tryz.lays144_ren:Go.Shelf.Ren:=⟨λ|144=>285|143=>293|219=>294|217=>253|225=>309|224=>310|267=>311|266=>279|314=>318|n=>n,λ|9=>9|4=>4|3=>3|5=>5|46=>257|146=>345|51=>321|n=>n,λ|1=>0|n=>n⟩
theorem Tryz.lays144:Go.Proofs.Lays.n144 prog lays144_ren:=⟨(by kernel_rfl),ZKF func293,ZKF func285,ZKF func253,ZKF func294,ZKF func310,ZKF func309,ZKF func279,ZKF func311,ZKF func318,underlying3,isAgg3,sizeOf3,zeroValue3,underlying4,isAgg4,sizeOf4,zeroValue4,underlying5,isAgg5,sizeOf5,zeroValue5,underlying9,isAgg9,sizeOf9,zeroValue9,underlying257,isAgg257,sizeOf257,zeroValue257,underlying321,isAgg321,sizeOf321,zeroValue321,underlying345,isAgg345,sizeOf345,zeroValue345,(by kernel_rfl)⟩
open Go.RowKit Go.Lib in
theorem Tryz.strings_Contains_one(s:ByteArray)(c:UInt8)(w:World):
  Calls prog 285 #[.string s,.string ⟨#[c]⟩] w λe w'=>e=.returned (.bool (decide (0<=Lib.indexByte s.data.toList c)))/\w'=w:=Any.strings_Contains_one lays144 s c w
