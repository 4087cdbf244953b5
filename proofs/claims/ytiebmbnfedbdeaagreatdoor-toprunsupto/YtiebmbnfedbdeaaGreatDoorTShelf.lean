import Derived.Shelf.Small.Bits
import Derived.Shelf.Small.Strs
import Derived.Shelf.Strconv.Itoa3
import Derived.Shelf.Strconv.ErrVar
import Derived.Shelf.Strconv.AtoiAll
import Derived.Shelf.Strings.Shaped
import Derived.Shelf.Sort.Plain
import Derived.Shelf.Bits.Mul64
import Derived.Shelf.Slices.Clone
import Derived.Shelf.Slices.SearchI
import Derived.Shelf.Slices.Cells
import Derived.Shelf.Slices.In.SortNone
import Derived.Shelf.SlicesE.Equal
import Derived.Shelf.SlicesE.Clone
import Derived.Test.YtiebmbnfedbdeaaGreatDoorTZAL
namespace Go.Proofs
theorem ZKF{α:Type}{x:Option α}{a b:α}(p:x=some a)(h:a=b:=by kernel_rfl):x=some b:=p.trans (congrArg some h)
open Tryz
open Go.Shelf
def Tryz.lays137_ren:Go.Shelf.Ren:=⟨λ|137=>168|217=>213|266=>240|n=>n,λ|9=>9|5=>5|3=>3|n=>n,λ|n=>n⟩
theorem Tryz.lays137:Go.Proofs.Lays.n137 prog lays137_ren:=⟨(by kernel_rfl),ZKF func168,ZKF func213,ZKF func240,underlying3,isAgg3,sizeOf3,zeroValue3,underlying5,isAgg5,sizeOf5,zeroValue5,underlying9,isAgg9,sizeOf9,zeroValue9⟩
open Go.RowKit in
theorem Tryz.strings_IndexByte(s:ByteArray)(c:Int)(w:World):
  Calls prog 168 #[.string s,.int .u8 c] w λe w'=>e=.returned (.int .i64 (Lib.indexByte s.data.toList c.toNat.toUInt8))/\w'=w:=Any.strings_IndexByte lays137 s c w
def Tryz.laysC172_ren:Go.Shelf.Ren:=⟨λ|172=>245|244=>252|245=>253|247=>265|279=>266|280=>267|281=>268|282=>269|287=>276|316=>108|171=>278|205=>277|321=>281|322=>282|243=>283|246=>284|283=>285|284=>286|285=>287|286=>288|129=>166|317=>289|318=>290|319=>291|320=>292|337=>293|338=>294|n=>n,λ|9=>9|3=>3|75=>335|76=>336|4=>4|5=>5|167=>347|37=>274|0=>0|85=>348|2=>2|168=>350|53=>271|175=>356|46=>204|210=>359|127=>275|145=>366|143=>364|21=>21|171=>368|173=>370|212=>372|51=>269|20=>20|213=>373|232=>374|233=>375|80=>155|n=>n,λ|15=>1|16=>2|17=>3|18=>4|19=>5|n=>n⟩
theorem Tryz.laysC172:Go.Proofs.LaysC.n172 prog laysC172_ren:=⟨⟨⟨(by kernel_rfl),ZKF func166,ZKF func278,ZKF func245,ZKF func277,ZKF func283,ZKF func252,ZKF func253,ZKF func284,ZKF func265,ZKF func266,ZKF func267,ZKF func268,ZKF func269,ZKF func285,ZKF func286,ZKF func287,ZKF func288,ZKF func276,ZKF func108,ZKF func289,ZKF func290,ZKF func291,ZKF func292,ZKF func281,ZKF func282,ZKF func293,ZKF func294,underlying0,isAgg0,sizeOf0,zeroValue0,underlying2,isAgg2,sizeOf2,zeroValue2,underlying3,isAgg3,sizeOf3,zeroValue3,underlying4,isAgg4,sizeOf4,zeroValue4,underlying5,isAgg5,sizeOf5,zeroValue5,underlying9,isAgg9,sizeOf9,zeroValue9,underlying20,isAgg20,sizeOf20,zeroValue20,underlying21,isAgg21,sizeOf21,zeroValue21,underlying274,isAgg274,sizeOf274,zeroValue274,underlying204,isAgg204,sizeOf204,zeroValue204,underlying269,isAgg269,sizeOf269,zeroValue269,underlying271,isAgg271,sizeOf271,zeroValue271,underlying335,isAgg335,sizeOf335,zeroValue335,underlying336,isAgg336,sizeOf336,zeroValue336,underlying348,isAgg348,sizeOf348,zeroValue348,underlying275,isAgg275,sizeOf275,zeroValue275,underlying364,isAgg364,sizeOf364,zeroValue364,underlying366,isAgg366,sizeOf366,zeroValue366,underlying347,isAgg347,sizeOf347,zeroValue347,underlying350,isAgg350,sizeOf350,zeroValue350,underlying368,isAgg368,sizeOf368,zeroValue368,underlying370,isAgg370,sizeOf370,zeroValue370,underlying356,isAgg356,sizeOf356,zeroValue356,underlying359,isAgg359,sizeOf359,zeroValue359,underlying372,isAgg372,sizeOf372,zeroValue372,underlying373,isAgg373,sizeOf373,underlying374,isAgg374,sizeOf374,zeroValue374,underlying375,isAgg375,sizeOf375,zeroValue375,(by kernel_rfl),(by kernel_rfl),(by kernel_rfl),(by kernel_rfl),(by kernel_rfl)⟩,underlying155,isAgg155,sizeOf155,zeroValue155,(by kernel_rfl),(by kernel_rfl),(by kernel_rfl),(by kernel_rfl),(by kernel_rfl),(by kernel_rfl),(by kernel_rfl),(by kernel_rfl),(by kernel_rfl),(by kernel_rfl),(by kernel_rfl),(by kernel_rfl),(by kernel_rfl),(by kernel_rfl),(by kernel_rfl),(by kernel_rfl),(by kernel_rfl),(by kernel_rfl),(by kernel_rfl),(by kernel_rfl),(by kernel_rfl),(by kernel_rfl),(by kernel_rfl),(by kernel_rfl),(by kernel_rfl),(by kernel_rfl),(by kernel_rfl),(by kernel_rfl),(by kernel_rfl),(by kernel_rfl),(by kernel_rfl),(by kernel_rfl),(by kernel_rfl)⟩,(by kernel_rfl),(by kernel_rfl),(by kernel_rfl),(by kernel_rfl),(by kernel_rfl),(by kernel_rfl),(by kernel_rfl),(by kernel_rfl),(by kernel_rfl),(by kernel_rfl),(by kernel_rfl),(by kernel_rfl),(by kernel_rfl),(by kernel_rfl),(by kernel_rfl),(by kernel_rfl),(by kernel_rfl),(by kernel_rfl),(by kernel_rfl),(by kernel_rfl),(by kernel_rfl),(by kernel_rfl),(by kernel_rfl),(by kernel_rfl),(by kernel_rfl),(by kernel_rfl),(by kernel_rfl),(by kernel_rfl),(by kernel_rfl)⟩
open Go.RowKit in
theorem Tryz.strconv_Atoi(s:ByteArray)(n:Int)(hl:s.size<=18)(h:Lib.atoi s.data.toList=some n)(w:World):
  Calls prog 245 #[.string s] w λe w'=>e=.returned (.tuple #[.int .i64 n,.nilIface])/\∃t,w'=Lib.bytesWorld w 5 t:=Any.strconv_Atoi laysC172.toM.ton172 s n hl h w
def Tryz.laysM316_ren:Go.Shelf.Ren:=⟨λ|316=>108|n=>n,λ|9=>9|3=>3|4=>4|37=>274|0=>0|127=>275|5=>5|n=>n,λ|n=>n⟩
theorem Tryz.laysM316:Go.Proofs.LaysM.n316 prog laysM316_ren:=⟨⟨(by kernel_rfl),ZKF func108,underlying0,isAgg0,sizeOf0,zeroValue0,underlying3,isAgg3,sizeOf3,zeroValue3,underlying4,isAgg4,sizeOf4,zeroValue4,underlying9,isAgg9,sizeOf9,zeroValue9,underlying274,isAgg274,sizeOf274,zeroValue274,underlying275,isAgg275,sizeOf275,zeroValue275⟩,underlying5,isAgg5,sizeOf5,zeroValue5,(by kernel_rfl),(by kernel_rfl),(by kernel_rfl),(by kernel_rfl),(by kernel_rfl),(by kernel_rfl),(by kernel_rfl)⟩
open Go.RowKit in
theorem Tryz.stringslite_Clone(s:ByteArray)(w:World)(hlim:s.size<=281474976710656):
  Calls prog 108 #[.string s] w λe w'=>e=.returned (.string s)/\Below w.heap.size w w':=Any.stringslite_Clone laysM316 s w hlim
open Go.RowKit in
theorem Tryz.strconv_Atoi_err_var(s:ByteArray)(hl:s.size<=18)(h:Lib.atoi s.data.toList=none)(tp:TypeId)(p:Value)(w:World)(hvar:w.var? prog "strconv.ErrSyntax" = some #[.iface tp p]):
  Calls prog 245 #[.string s] w λe w'=>∃N,e=.returned (.tuple #[.int .i64 0,.iface 350 (.pointer (some ⟨N,0,none⟩))])/\w.heap.size<=N/\w'.heap[N]?=some (.cells #[.string ⟨#[65,116,111,105]⟩,.string s,.iface tp p] 359 (0,0))/\Below w.heap.size w w':=Any.strconv_Atoi_err_var laysC172 s hl h tp p w hvar
def Tryz.lays219_ren:Go.Shelf.Ren:=⟨λ|219=>255|217=>213|225=>270|224=>271|267=>272|266=>240|314=>279|n=>n,λ|9=>9|3=>3|4=>4|5=>5|46=>204|146=>296|51=>269|n=>n,λ|1=>0|n=>n⟩
theorem Tryz.lays219:Go.Proofs.Lays.n219 prog lays219_ren:=⟨(by kernel_rfl),ZKF func213,ZKF func255,ZKF func271,ZKF func270,ZKF func240,ZKF func272,ZKF func279,underlying3,isAgg3,sizeOf3,zeroValue3,underlying4,isAgg4,sizeOf4,zeroValue4,underlying5,isAgg5,sizeOf5,zeroValue5,underlying9,isAgg9,sizeOf9,zeroValue9,underlying204,isAgg204,sizeOf204,zeroValue204,underlying269,isAgg269,sizeOf269,zeroValue269,underlying296,isAgg296,sizeOf296,zeroValue296,(by kernel_rfl)⟩
open Go.RowKit Go.Lib in
theorem Tryz.stringslite_Index_one(s:ByteArray)(c:UInt8)(w:World):
  Calls prog 255 #[.string s,.string ⟨#[c]⟩] w λe w'=>e=.returned (.int .i64 (Lib.indexByte s.data.toList c))/\w'=w:=Any.stringslite_Index_one lays219 s c w
def Tryz.lays144_ren:Go.Shelf.Ren:=⟨λ|144=>246|143=>254|219=>255|217=>213|225=>270|224=>271|267=>272|266=>240|314=>279|n=>n,λ|9=>9|4=>4|3=>3|5=>5|46=>204|146=>296|51=>269|n=>n,λ|1=>0|n=>n⟩
theorem Tryz.lays144:Go.Proofs.Lays.n144 prog lays144_ren:=⟨(by kernel_rfl),ZKF func254,ZKF func246,ZKF func213,ZKF func255,ZKF func271,ZKF func270,ZKF func240,ZKF func272,ZKF func279,underlying3,isAgg3,sizeOf3,zeroValue3,underlying4,isAgg4,sizeOf4,zeroValue4,underlying5,isAgg5,sizeOf5,zeroValue5,underlying9,isAgg9,sizeOf9,zeroValue9,underlying204,isAgg204,sizeOf204,zeroValue204,underlying269,isAgg269,sizeOf269,zeroValue269,underlying296,isAgg296,sizeOf296,zeroValue296,(by kernel_rfl)⟩
open Go.RowKit Go.Lib in
theorem Tryz.strings_Contains_one(s:ByteArray)(c:UInt8)(w:World):
  Calls prog 246 #[.string s,.string ⟨#[c]⟩] w λe w'=>e=.returned (.bool (decide (0<=Lib.indexByte s.data.toList c)))/\w'=w:=Any.strings_Contains_one lays144 s c w
