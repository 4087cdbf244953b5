/- Walks over package run: shared, get, put. -/
import Derived.Test.YtfnboapebijcpaaGreatDoorMZAP
import Derived.Test.YtfnboapebijcpaaGreatDoorMZAO
set_option maxHeartbeats 16000000
set_option maxRecDepth 100000
namespace Go.Proofs.YtfnboapebijcpaaGreatDoor
open Go.Proofs.Tryz
open Go.RowKit Go.Maps
theorem IV(w:World):Calls prog 175 #[.slice none 0 0] w λe w'=>e=.returned (.slice none 0 0)/\w'=w:=by go_enter func175,ntmps175;go_wp2_with fail;go_ret;exact⟨rfl,rfl⟩
end Go.Proofs.YtfnboapebijcpaaGreatDoor
