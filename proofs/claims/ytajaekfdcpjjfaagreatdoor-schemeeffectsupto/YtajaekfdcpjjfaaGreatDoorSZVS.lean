import Derived.Shelf.Sort.Plain
import Derived.Shelf.SlSortCmp.NoneTotal
import Derived.Test.YtajaekfdcpjjfaaGreatDoorSZAL
set_option maxHeartbeats 0
set_option maxRecDepth 99999
namespace Go.Proofs
theorem ZKG{α:Type}{x:Option α}{a b:α}(p:x=some a)(h:a=b:=by kernel_rfl):x=some b:=p.trans (congrArg some h)
open Tryz
open Go.Shelf
def Tryz.lSoI_ren:Go.Shelf.Ren:=⟨λ|189=>270|125=>145|257=>289|128=>207|129=>208|294=>295|295=>296|296=>297|297=>298|298=>299|299=>300|216=>301|300=>302|301=>303|328=>312|329=>249|330=>250|331=>313|332=>314|215=>246|343=>319|n=>n,λ|28=>27|3=>3|46=>257|0=>0|51=>321|53=>323|4=>4|183=>314|182=>313|131=>129|5=>5|9=>9|218=>356|222=>360|228=>377|229=>115|n=>n,λ|n=>n⟩
theorem Tryz.lSoI:Go.Proofs.Lays.n189 prog lSoI_ren:=⟨(by kernel_rfl),ZKG func145,ZKG func207,ZKG func208,ZKG func270,ZKG func246,ZKG func301,ZKG func289,ZKG func295,ZKG func296,ZKG func297,ZKG func298,ZKG func299,ZKG func300,ZKG func302,ZKG func303,ZKG func312,ZKG func249,ZKG func250,ZKG func313,ZKG func314,ZKG func319,underlying0,isAgg0,sizeOf0,zeroValue0,underlying3,isAgg3,sizeOf3,zeroValue3,underlying4,isAgg4,sizeOf4,zeroValue4,underlying5,isAgg5,sizeOf5,zeroValue5,underlying9,isAgg9,sizeOf9,zeroValue9,underlying27,isAgg27,sizeOf27,zeroValue27,underlying257,isAgg257,sizeOf257,zeroValue257,underlying321,isAgg321,sizeOf321,zeroValue321,underlying323,isAgg323,sizeOf323,zeroValue323,underlying129,isAgg129,sizeOf129,zeroValue129,underlying313,isAgg313,sizeOf313,zeroValue313,underlying314,isAgg314,sizeOf314,zeroValue314,underlying356,isAgg356,sizeOf356,zeroValue356,underlying360,isAgg360,sizeOf360,zeroValue360,underlying377,isAgg377,sizeOf377,zeroValue377,underlying115,isAgg115,sizeOf115,zeroValue115⟩
end Go.Proofs
namespace Go.Proofs
open Tryz
def Tryz.lSoDg_ren:Go.Shelf.Ren:=⟨λ|6=>133|15=>145|14=>185|28=>207|29=>208|20=>237|21=>238|22=>239|23=>240|24=>241|25=>242|26=>243|27=>244|46=>275|47=>249|48=>250|49=>276|50=>277|57=>290|n=>n,λ|22=>62|24=>97|25=>245|3=>3|39=>257|0=>0|53=>321|55=>323|4=>4|46=>314|45=>313|50=>129|5=>5|9=>9|66=>356|70=>360|76=>377|77=>115|n=>n,λ|n=>n⟩
theorem Tryz.lSoDg:Go.Proofs.SlLaysF0.n6 prog lSoDg_ren:=⟨(by kernel_rfl),⟨f133.name,by decide,ZKG func133⟩,⟨f185.name,by decide,ZKG func185⟩,ZKG func145,⟨f237.name,by decide,ZKG func237⟩,⟨f238.name,by decide,ZKG func238⟩,⟨f239.name,by decide,ZKG func239⟩,⟨f240.name,by decide,ZKG func240⟩,⟨f241.name,by decide,ZKG func241⟩,⟨f242.name,by decide,ZKG func242⟩,⟨f243.name,by decide,ZKG func243⟩,⟨f244.name,by decide,ZKG func244⟩,ZKG func207,ZKG func208,⟨f275.name,by decide,ZKG func275⟩,ZKG func249,ZKG func250,⟨f276.name,by decide,ZKG func276⟩,⟨f277.name,by decide,ZKG func277⟩,⟨f290.name,by decide,ZKG func290⟩,underlying0,isAgg0,sizeOf0,zeroValue0,underlying3,isAgg3,sizeOf3,zeroValue3,underlying4,isAgg4,sizeOf4,zeroValue4,underlying5,isAgg5,sizeOf5,zeroValue5,underlying9,isAgg9,sizeOf9,zeroValue9,underlying62,isAgg62,sizeOf62,zeroValue62,underlying245,isAgg245,sizeOf245,zeroValue245,underlying257,isAgg257,sizeOf257,zeroValue257,underlying313,isAgg313,sizeOf313,zeroValue313,underlying314,isAgg314,sizeOf314,zeroValue314,underlying129,isAgg129,sizeOf129,zeroValue129,underlying321,isAgg321,sizeOf321,zeroValue321,underlying323,isAgg323,sizeOf323,zeroValue323,underlying356,isAgg356,sizeOf356,zeroValue356,underlying360,isAgg360,sizeOf360,zeroValue360,underlying377,isAgg377,sizeOf377,zeroValue377,underlying115,isAgg115,sizeOf115,zeroValue115⟩
end Go.Proofs
namespace Go.Proofs
open Tryz
def Tryz.lSoS_ren:Go.Shelf.Ren:=⟨λ|190=>83|125=>145|258=>144|128=>207|129=>208|302=>198|303=>199|304=>200|305=>201|306=>202|307=>203|308=>204|309=>205|310=>206|333=>248|329=>249|330=>250|334=>251|335=>252|336=>245|344=>278|n=>n,λ|31=>22|9=>9|3=>3|46=>257|0=>0|51=>321|53=>323|4=>4|183=>314|182=>313|131=>129|5=>5|218=>356|222=>360|228=>377|229=>115|n=>n,λ|n=>n⟩
theorem Tryz.lSoS:Go.Proofs.Lays.n190 prog lSoS_ren:={
 mixed:=by kernel_rfl
 f125:=ZKG func145
 f128:=ZKG func207
 f129:=ZKG func208
 f190:=ZKG func83
 f258:=ZKG func144
 f302:=ZKG func198
 f303:=ZKG func199
 f304:=ZKG func200
 f305:=ZKG func201
 f306:=ZKG func202
 f307:=ZKG func203
 f308:=ZKG func204
 f309:=ZKG func205
 f310:=ZKG func206
 f329:=ZKG func249
 f330:=ZKG func250
 f333:=ZKG func248
 f334:=ZKG func251
 f335:=ZKG func252
 f336:=ZKG func245
 f344:=ZKG func278
 t0:=underlying0
 a0:=isAgg0
 z0:=sizeOf0
 v0:=zeroValue0
 t3:=underlying3
 a3:=isAgg3
 z3:=sizeOf3
 v3:=zeroValue3
 t4:=underlying4
 a4:=isAgg4
 z4:=sizeOf4
 v4:=zeroValue4
 t5:=underlying5
 a5:=isAgg5
 z5:=sizeOf5
 v5:=zeroValue5
 t9:=underlying9
 a9:=isAgg9
 z9:=sizeOf9
 v9:=zeroValue9
 t31:=underlying22
 a31:=isAgg22
 z31:=sizeOf22
 v31:=zeroValue22
 t46:=underlying257
 a46:=isAgg257
 z46:=sizeOf257
 v46:=zeroValue257
 t51:=underlying321
 a51:=isAgg321
 z51:=sizeOf321
 v51:=zeroValue321
 t53:=underlying323
 a53:=isAgg323
 z53:=sizeOf323
 v53:=zeroValue323
 t131:=underlying129
 a131:=isAgg129
 z131:=sizeOf129
 v131:=zeroValue129
 t182:=underlying313
 a182:=isAgg313
 z182:=sizeOf313
 v182:=zeroValue313
 t183:=underlying314
 a183:=isAgg314
 z183:=sizeOf314
 v183:=zeroValue314
 t218:=underlying356
 a218:=isAgg356
 z218:=sizeOf356
 v218:=zeroValue356
 t222:=underlying360
 a222:=isAgg360
 z222:=sizeOf360
 v222:=zeroValue360
 t228:=underlying377
 a228:=isAgg377
 z228:=sizeOf377
 v228:=zeroValue377
 t229:=underlying115
 a229:=isAgg115
 z229:=sizeOf115
 v229:=zeroValue115 }
