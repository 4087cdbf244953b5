import Derived.Shelf.Sort.Plain
import Derived.Shelf.SlSortCmp.NoneTotal
import Derived.Test.YtageneidjnbedaaGreatDoorTZAL
set_option maxHeartbeats 0
set_option maxRecDepth 99999
namespace Go.Proofs
theorem ZKH{α:Type}{x:Option α}{a b:α}(p:x=some a)(h:a=b:=by kernel_rfl):x=some b:=p.trans (congrArg some h)
open Tryz
open Go.Shelf
def Tryz.lSoI_ren:Go.Shelf.Ren:=⟨λ|189=>238|125=>94|257=>260|128=>141|129=>142|294=>268|295=>269|296=>270|297=>271|298=>272|299=>273|216=>274|300=>275|301=>276|328=>281|329=>187|330=>188|331=>282|332=>283|215=>200|343=>284|n=>n,λ|28=>32|3=>3|46=>164|0=>0|51=>218|53=>220|4=>4|183=>212|182=>211|131=>64|5=>5|9=>9|218=>262|222=>266|228=>299|229=>300|n=>n,λ|n=>n⟩
theorem Tryz.lSoI:Go.Proofs.Lays.n189 prog lSoI_ren:=⟨(by kernel_rfl),ZKH func94,ZKH func141,ZKH func142,ZKH func238,ZKH func200,ZKH func274,ZKH func260,ZKH func268,ZKH func269,ZKH func270,ZKH func271,ZKH func272,ZKH func273,ZKH func275,ZKH func276,ZKH func281,ZKH func187,ZKH func188,ZKH func282,ZKH func283,ZKH func284,underlying0,isAgg0,sizeOf0,zeroValue0,underlying3,isAgg3,sizeOf3,zeroValue3,underlying4,isAgg4,sizeOf4,zeroValue4,underlying5,isAgg5,sizeOf5,zeroValue5,underlying9,isAgg9,sizeOf9,zeroValue9,underlying32,isAgg32,sizeOf32,zeroValue32,underlying164,isAgg164,sizeOf164,zeroValue164,underlying218,isAgg218,sizeOf218,zeroValue218,underlying220,isAgg220,sizeOf220,zeroValue220,underlying64,isAgg64,sizeOf64,zeroValue64,underlying211,isAgg211,sizeOf211,zeroValue211,underlying212,isAgg212,sizeOf212,zeroValue212,underlying262,isAgg262,sizeOf262,zeroValue262,underlying266,isAgg266,sizeOf266,zeroValue266,underlying299,isAgg299,sizeOf299,zeroValue299,underlying300,isAgg300,sizeOf300,zeroValue300⟩
end Go.Proofs
namespace Go.Proofs
open Tryz
def Tryz.lSoDg_ren:Go.Shelf.Ren:=⟨λ|6=>96|15=>94|14=>143|28=>141|29=>142|20=>192|21=>193|22=>194|23=>195|24=>196|25=>197|26=>198|27=>199|46=>229|47=>187|48=>188|49=>230|50=>231|57=>255|n=>n,λ|22=>38|24=>52|25=>166|3=>3|39=>164|0=>0|53=>218|55=>220|4=>4|46=>212|45=>211|50=>64|5=>5|9=>9|66=>262|70=>266|76=>299|77=>300|n=>n,λ|n=>n⟩
theorem Tryz.lSoDg:Go.Proofs.SlLaysF0.n6 prog lSoDg_ren:=⟨(by kernel_rfl),⟨f96.name,by decide,ZKH func96⟩,⟨f143.name,by decide,ZKH func143⟩,ZKH func94,⟨f192.name,by decide,ZKH func192⟩,⟨f193.name,by decide,ZKH func193⟩,⟨f194.name,by decide,ZKH func194⟩,⟨f195.name,by decide,ZKH func195⟩,⟨f196.name,by decide,ZKH func196⟩,⟨f197.name,by decide,ZKH func197⟩,⟨f198.name,by decide,ZKH func198⟩,⟨f199.name,by decide,ZKH func199⟩,ZKH func141,ZKH func142,⟨f229.name,by decide,ZKH func229⟩,ZKH func187,ZKH func188,⟨f230.name,by decide,ZKH func230⟩,⟨f231.name,by decide,ZKH func231⟩,⟨f255.name,by decide,ZKH func255⟩,underlying0,isAgg0,sizeOf0,zeroValue0,underlying3,isAgg3,sizeOf3,zeroValue3,underlying4,isAgg4,sizeOf4,zeroValue4,underlying5,isAgg5,sizeOf5,zeroValue5,underlying9,isAgg9,sizeOf9,zeroValue9,underlying38,isAgg38,sizeOf38,zeroValue38,underlying166,isAgg166,sizeOf166,zeroValue166,underlying164,isAgg164,sizeOf164,zeroValue164,underlying211,isAgg211,sizeOf211,zeroValue211,underlying212,isAgg212,sizeOf212,zeroValue212,underlying64,isAgg64,sizeOf64,zeroValue64,underlying218,isAgg218,sizeOf218,zeroValue218,underlying220,isAgg220,sizeOf220,zeroValue220,underlying262,isAgg262,sizeOf262,zeroValue262,underlying266,isAgg266,sizeOf266,zeroValue266,underlying299,isAgg299,sizeOf299,zeroValue299,underlying300,isAgg300,sizeOf300,zeroValue300⟩
end Go.Proofs
namespace Go.Proofs
open Tryz
def Tryz.lSoS_ren:Go.Shelf.Ren:=⟨λ|190=>73|125=>94|258=>93|128=>141|129=>142|302=>132|303=>133|304=>134|305=>135|306=>136|307=>137|308=>138|309=>139|310=>140|333=>186|329=>187|330=>188|334=>189|335=>190|336=>191|344=>228|n=>n,λ|31=>22|9=>9|3=>3|46=>164|0=>0|51=>218|53=>220|4=>4|183=>212|182=>211|131=>64|5=>5|218=>262|222=>266|228=>299|229=>300|n=>n,λ|n=>n⟩
theorem Tryz.lSoS:Go.Proofs.Lays.n190 prog lSoS_ren:={
 mixed:=by kernel_rfl
 f125:=ZKH func94
 f128:=ZKH func141
 f129:=ZKH func142
 f190:=ZKH func73
 f258:=ZKH func93
 f302:=ZKH func132
 f303:=ZKH func133
 f304:=ZKH func134
 f305:=ZKH func135
 f306:=ZKH func136
 f307:=ZKH func137
 f308:=ZKH func138
 f309:=ZKH func139
 f310:=ZKH func140
 f329:=ZKH func187
 f330:=ZKH func188
 f333:=ZKH func186
 f334:=ZKH func189
 f335:=ZKH func190
 f336:=ZKH func191
 f344:=ZKH func228
 t0:=underlying0
 a0:=isAgg0
 z0:=sizeOf0
 v0:=zeroValue0
 t3:=underlying3
 a3:=isAgg3
 z3:=sizeOf3
 v3:=zeroValue3
 t4:=underlying4
 a4:=isAgg4
 z4:=sizeOf4
 v4:=zeroValue4
 t5:=underlying5
 a5:=isAgg5
 z5:=sizeOf5
 v5:=zeroValue5
 t9:=underlying9
 a9:=isAgg9
 z9:=sizeOf9
 v9:=zeroValue9
 t31:=underlying22
 a31:=isAgg22
 z31:=sizeOf22
 v31:=zeroValue22
 t46:=underlying164
 a46:=isAgg164
 z46:=sizeOf164
 v46:=zeroValue164
 t51:=underlying218
 a51:=isAgg218
 z51:=sizeOf218
 v51:=zeroValue218
 t53:=underlying220
 a53:=isAgg220
 z53:=sizeOf220
 v53:=zeroValue220
 t131:=underlying64
 a131:=isAgg64
 z131:=sizeOf64
 v131:=zeroValue64
 t182:=underlying211
 a182:=isAgg211
 z182:=sizeOf211
 v182:=zeroValue211
 t183:=underlying212
 a183:=isAgg212
 z183:=sizeOf212
 v183:=zeroValue212
 t218:=underlying262
 a218:=isAgg262
 z218:=sizeOf262
 v218:=zeroValue262
 t222:=underlying266
 a222:=isAgg266
 z222:=sizeOf266
 v222:=zeroValue266
 t228:=underlying299
 a228:=isAgg299
 z228:=sizeOf299
 v228:=zeroValue299
 t229:=underlying300
 a229:=isAgg300
 z229:=sizeOf300
 v229:=zeroValue300 }
