import Derived.Shelf.Sort.Plain
import Derived.Shelf.SlSortCmp.NoneTotal
import Derived.Test.YtiebmbnfedbdeaaGreatDoorTZAL
set_option maxHeartbeats 0
set_option maxRecDepth 99999
namespace Go.Proofs
theorem ZKG{α:Type}{x:Option α}{a b:α}(p:x=some a)(h:a=b:=by kernel_rfl):x=some b:=p.trans (congrArg some h)
open Tryz
open Go.Shelf
def Tryz.lSoI_ren:Go.Shelf.Ren:=⟨λ|189=>231|125=>103|257=>250|128=>165|129=>166|294=>256|295=>257|296=>258|297=>259|298=>260|299=>261|216=>262|300=>263|301=>264|328=>273|329=>209|330=>210|331=>274|332=>275|215=>206|343=>280|n=>n,λ|28=>27|3=>3|46=>204|0=>0|51=>269|53=>271|4=>4|183=>262|182=>261|131=>122|5=>5|9=>9|218=>308|222=>312|228=>330|229=>331|n=>n,λ|n=>n⟩
theorem Tryz.lSoI:Go.Proofs.Lays.n189 prog lSoI_ren:=⟨(by kernel_rfl),ZKG func103,ZKG func165,ZKG func166,ZKG func231,ZKG func206,ZKG func262,ZKG func250,ZKG func256,ZKG func257,ZKG func258,ZKG func259,ZKG func260,ZKG func261,ZKG func263,ZKG func264,ZKG func273,ZKG func209,ZKG func210,ZKG func274,ZKG func275,ZKG func280,underlying0,isAgg0,sizeOf0,zeroValue0,underlying3,isAgg3,sizeOf3,zeroValue3,underlying4,isAgg4,sizeOf4,zeroValue4,underlying5,isAgg5,sizeOf5,zeroValue5,underlying9,isAgg9,sizeOf9,zeroValue9,underlying27,isAgg27,sizeOf27,zeroValue27,underlying204,isAgg204,sizeOf204,zeroValue204,underlying269,isAgg269,sizeOf269,zeroValue269,underlying271,isAgg271,sizeOf271,zeroValue271,underlying122,isAgg122,sizeOf122,zeroValue122,underlying261,isAgg261,sizeOf261,zeroValue261,underlying262,isAgg262,sizeOf262,zeroValue262,underlying308,isAgg308,sizeOf308,zeroValue308,underlying312,isAgg312,sizeOf312,zeroValue312,underlying330,isAgg330,sizeOf330,zeroValue330,underlying331,isAgg331,sizeOf331,zeroValue331⟩
end Go.Proofs
namespace Go.Proofs
open Tryz
def Tryz.lSoDg_ren:Go.Shelf.Ren:=⟨λ|6=>90|15=>103|14=>143|28=>165|29=>166|20=>197|21=>198|22=>199|23=>200|24=>201|25=>202|26=>203|27=>204|46=>236|47=>209|48=>210|49=>237|50=>238|57=>251|n=>n,λ|22=>62|24=>69|25=>190|3=>3|39=>204|0=>0|53=>269|55=>271|4=>4|46=>262|45=>261|50=>122|5=>5|9=>9|66=>308|70=>312|76=>330|77=>331|n=>n,λ|n=>n⟩
theorem Tryz.lSoDg:Go.Proofs.SlLaysF0.n6 prog lSoDg_ren:=⟨(by kernel_rfl),⟨f90.name,by decide,ZKG func90⟩,⟨f143.name,by decide,ZKG func143⟩,ZKG func103,⟨f197.name,by decide,ZKG func197⟩,⟨f198.name,by decide,ZKG func198⟩,⟨f199.name,by decide,ZKG func199⟩,⟨f200.name,by decide,ZKG func200⟩,⟨f201.name,by decide,ZKG func201⟩,⟨f202.name,by decide,ZKG func202⟩,⟨f203.name,by decide,ZKG func203⟩,⟨f204.name,by decide,ZKG func204⟩,ZKG func165,ZKG func166,⟨f236.name,by decide,ZKG func236⟩,ZKG func209,ZKG func210,⟨f237.name,by decide,ZKG func237⟩,⟨f238.name,by decide,ZKG func238⟩,⟨f251.name,by decide,ZKG func251⟩,underlying0,isAgg0,sizeOf0,zeroValue0,underlying3,isAgg3,sizeOf3,zeroValue3,underlying4,isAgg4,sizeOf4,zeroValue4,underlying5,isAgg5,sizeOf5,zeroValue5,underlying9,isAgg9,sizeOf9,zeroValue9,underlying62,isAgg62,sizeOf62,zeroValue62,underlying190,isAgg190,sizeOf190,zeroValue190,underlying204,isAgg204,sizeOf204,zeroValue204,underlying261,isAgg261,sizeOf261,zeroValue261,underlying262,isAgg262,sizeOf262,zeroValue262,underlying122,isAgg122,sizeOf122,zeroValue122,underlying269,isAgg269,sizeOf269,zeroValue269,underlying271,isAgg271,sizeOf271,zeroValue271,underlying308,isAgg308,sizeOf308,zeroValue308,underlying312,isAgg312,sizeOf312,zeroValue312,underlying330,isAgg330,sizeOf330,zeroValue330,underlying331,isAgg331,sizeOf331,zeroValue331⟩
end Go.Proofs
namespace Go.Proofs
open Tryz
def Tryz.lSoS_ren:Go.Shelf.Ren:=⟨λ|190=>49|125=>103|258=>102|128=>165|129=>166|302=>156|303=>157|304=>158|305=>159|306=>160|307=>161|308=>162|309=>163|310=>164|333=>208|329=>209|330=>210|334=>211|335=>212|336=>205|344=>239|n=>n,λ|31=>22|9=>9|3=>3|46=>204|0=>0|51=>269|53=>271|4=>4|183=>262|182=>261|131=>122|5=>5|218=>308|222=>312|228=>330|229=>331|n=>n,λ|n=>n⟩
theorem Tryz.lSoS:Go.Proofs.Lays.n190 prog lSoS_ren:={
 mixed:=by kernel_rfl
 f125:=ZKG func103
 f128:=ZKG func165
 f129:=ZKG func166
 f190:=ZKG func49
 f258:=ZKG func102
 f302:=ZKG func156
 f303:=ZKG func157
 f304:=ZKG func158
 f305:=ZKG func159
 f306:=ZKG func160
 f307:=ZKG func161
 f308:=ZKG func162
 f309:=ZKG func163
 f310:=ZKG func164
 f329:=ZKG func209
 f330:=ZKG func210
 f333:=ZKG func208
 f334:=ZKG func211
 f335:=ZKG func212
 f336:=ZKG func205
 f344:=ZKG func239
 t0:=underlying0
 a0:=isAgg0
 z0:=sizeOf0
 v0:=zeroValue0
 t3:=underlying3
 a3:=isAgg3
 z3:=sizeOf3
 v3:=zeroValue3
 t4:=underlying4
 a4:=isAgg4
 z4:=sizeOf4
 v4:=zeroValue4
 t5:=underlying5
 a5:=isAgg5
 z5:=sizeOf5
 v5:=zeroValue5
 t9:=underlying9
 a9:=isAgg9
 z9:=sizeOf9
 v9:=zeroValue9
 t31:=underlying22
 a31:=isAgg22
 z31:=sizeOf22
 v31:=zeroValue22
 t46:=underlying204
 a46:=isAgg204
 z46:=sizeOf204
 v46:=zeroValue204
 t51:=underlying269
 a51:=isAgg269
 z51:=sizeOf269
 v51:=zeroValue269
 t53:=underlying271
 a53:=isAgg271
 z53:=sizeOf271
 v53:=zeroValue271
 t131:=underlying122
 a131:=isAgg122
 z131:=sizeOf122
 v131:=zeroValue122
 t182:=underlying261
 a182:=isAgg261
 z182:=sizeOf261
 v182:=zeroValue261
 t183:=underlying262
 a183:=isAgg262
 z183:=sizeOf262
 v183:=zeroValue262
 t218:=underlying308
 a218:=isAgg308
 z218:=sizeOf308
 v218:=zeroValue308
 t222:=underlying312
 a222:=isAgg312
 z222:=sizeOf312
 v222:=zeroValue312
 t228:=underlying330
 a228:=isAgg330
 z228:=sizeOf330
 v228:=zeroValue330
 t229:=underlying331
 a229:=isAgg331
 z229:=sizeOf331
 v229:=zeroValue331 }
