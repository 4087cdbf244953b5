/-
  NARROWER THAN 'FOR EVERY INPUT', by the rows' own cells (each row's printed sentence says how): LowSays: loops.
  DERIVED. THE GIVEN ROWS OF THIS SEAT. 4 by the template 'for every input the law returns true; each argument reads behind the call as it read before'; 0 by the template 'total and deterministic' (their statements: YtmhcameodlhloaaTotals.lean).
  GIVEN WITH THE SEED: the statements are not yours to turn. If you find one false, say at which input.
  Laid BY PROGRAM, IN A SANDBOX (cutbox-rows.mjs): the forced cells as the released guide's own fill.sh prints them over the translation 91f0db923f6a2ef6… (all of the seat's roots in one cut). By AI agents, Wed Nov 11 2026. No macro, syntax, notation, axiom, sorry.
-/
import Derived.Test.YtmhcameodlhloaaChecked
import GoSem.Claim
import GoSem.ClaimJoined
import GoSem.ClaimMapViews
import Derived.JoinedTies
import Derived.KernelRfl
namespace Go.Proofs.Ytmhcameodlhloaa
/- THE CELL 'sum', in the pinned program and in every row, IS THE sha256 OF THE DUMP (.gsa) THAT YtmhcameodlhloaaProg.lean LOADS. Nothing in Lean hashes anything: it is a label: what it is worth is what the hold of that sum in a sandbox is worth. -/
noncomputable def Try.pinned : Pinned := { name := "ytmhcameodlhloaa", sum := "91f0db923f6a2ef67b763d62221687f4b84e1a8f47998cbe952c08bd3569a73f", checked := Try.checked }
namespace Rows
def none {H : Type} : Left H := { results := [], args := [] }

/-- 'downlaw.LatticeSays': WHATEVER THE INPUT: true; the input reads as it did. -/
def latticeSaysSpec : ChangeSpec := { name := "latticeSays", fn := fun _ => fun
  | [d1, d2, d3, d4] => { results := [.lit (.bool true)], args := [d1, d2, d3, d4] }
  | _ => none }
def latticeSaysRow : OpenClaim := { program := "ytmhcameodlhloaa", sum := "91f0db923f6a2ef67b763d62221687f4b84e1a8f47998cbe952c08bd3569a73f", func := "lowdown/downlaw.LatticeSays", spec := "latticeSays", plainKeys := false, apart := false }
def LatticeSaysSaid : Prop := latticeSaysRow.holds Try.pinned (OpenSpec.ofChange latticeSaysSpec)

/-- ITS FALSE NEIGHBOUR: 'it returns false'. Refute it at one input. -/
def latticeSaysWrong : ChangeSpec := { name := "latticeSays", fn := fun _ => fun
  | [d1, d2, d3, d4] => { results := [.lit (.bool false)], args := [d1, d2, d3, d4] }
  | _ => none }
def LatticeSaysWrongFalsely : Prop := latticeSaysRow.holds Try.pinned (OpenSpec.ofChange latticeSaysWrong)

/-- 'downlaw.LexSays': WHATEVER THE INPUT: true; the input reads as it did. -/
def lexSaysSpec : ChangeSpec := { name := "lexSays", fn := fun _ => fun
  | [d] => { results := [.lit (.bool true)], args := [d] }
  | _ => none }
def lexSaysRow : OpenClaim := { program := "ytmhcameodlhloaa", sum := "91f0db923f6a2ef67b763d62221687f4b84e1a8f47998cbe952c08bd3569a73f", func := "lowdown/downlaw.LexSays", spec := "lexSays", inPlace := ["internal/bytealg.IndexByteString"], plainKeys := false, apart := false }
def LexSaysSaid : Prop := lexSaysRow.holds Try.pinned (OpenSpec.ofChange lexSaysSpec)

/-- ITS FALSE NEIGHBOUR: 'it returns false'. Refute it at one input. -/
def lexSaysWrong : ChangeSpec := { name := "lexSays", fn := fun _ => fun
  | [d] => { results := [.lit (.bool false)], args := [d] }
  | _ => none }
def LexSaysWrongFalsely : Prop := lexSaysRow.holds Try.pinned (OpenSpec.ofChange lexSaysWrong)

/-- 'downlaw.SolveSays': WHATEVER THE INPUT: true; the input reads as it did. -/
def solveSaysSpec : ChangeSpec := { name := "solveSays", fn := fun _ => fun
  | [d1, d2, d3, d4, d5] => { results := [.lit (.bool true)], args := [d1, d2, d3, d4, d5] }
  | _ => none }
def solveSaysRow : OpenClaim := { program := "ytmhcameodlhloaa", sum := "91f0db923f6a2ef67b763d62221687f4b84e1a8f47998cbe952c08bd3569a73f", func := "lowdown/downlaw.SolveSays", spec := "solveSays", unfollowed := true, recurses := true, plainKeys := false, apart := false }
def SolveSaysSaid : Prop := solveSaysRow.holds Try.pinned (OpenSpec.ofChange solveSaysSpec)

/-- ITS FALSE NEIGHBOUR: 'it returns false'. Refute it at one input. -/
def solveSaysWrong : ChangeSpec := { name := "solveSays", fn := fun _ => fun
  | [d1, d2, d3, d4, d5] => { results := [.lit (.bool false)], args := [d1, d2, d3, d4, d5] }
  | _ => none }
def SolveSaysWrongFalsely : Prop := solveSaysRow.holds Try.pinned (OpenSpec.ofChange solveSaysWrong)

/-- 'downlaw.LowSays': WHATEVER THE INPUT: true; the input reads as it did. -/
def lowSaysSpec : ChangeSpec := { name := "lowSays", fn := fun _ => fun
  | [d1, d2, d3, d4, d5] => { results := [.lit (.bool true)], args := [d1, d2, d3, d4, d5] }
  | _ => none }
def lowSaysRow : OpenClaim := { program := "ytmhcameodlhloaa", sum := "91f0db923f6a2ef67b763d62221687f4b84e1a8f47998cbe952c08bd3569a73f", func := "lowdown/downlaw.LowSays", spec := "lowSays", loops := true, plainKeys := false, apart := false }
def LowSaysSaid : Prop := lowSaysRow.holds Try.pinned (OpenSpec.ofChange lowSaysSpec)

/-- ITS FALSE NEIGHBOUR: 'it returns false'. Refute it at one input. -/
def lowSaysWrong : ChangeSpec := { name := "lowSays", fn := fun _ => fun
  | [d1, d2, d3, d4, d5] => { results := [.lit (.bool false)], args := [d1, d2, d3, d4, d5] }
  | _ => none }
def LowSaysWrongFalsely : Prop := lowSaysRow.holds Try.pinned (OpenSpec.ofChange lowSaysWrong)

/- THE SECOND FORM. 'bulk': how many values and letters a reading holds, each counted each time it is reached (what is shared counts as often as it is met; a slice's spare places count too). A statement '..UptoSaid' is the law's where the arguments, and the package variables that the reading takes, are together of bulk at most 1048576: NARROWER than '..Said'. Prove '..Said' where nothing that the law and all that it calls make is longer than what came in: it says more and counts as full. Else prove '..UptoSaid'. A law counts once. -/
mutual
def uptoBulk {H : Type} : DataW H → Nat
  | .lit (.string bytes) => bytes.length + 1
  | .lit _ => 1
  | .nil => 1
  | .ptr d => uptoBulk d + 1
  | .slice elems spare => uptoBulkAll elems + uptoBulkAll spare + 1
  | .agg parts => uptoBulkAll parts + 1
  | .iface _ d => uptoBulk d + 1
  | .map entries => uptoBulkEntries entries + 1
  | .held _ => 1
def uptoBulkAll {H : Type} : List (DataW H) → Nat
  | [] => 0
  | d :: r => uptoBulk d + uptoBulkAll r
def uptoBulkEntries {H : Type} : List (Lit × DataW H) → Nat
  | [] => 0
  | x :: r => uptoBulkEntry x + uptoBulkEntries r
def uptoBulkEntry {H : Type} : Lit × DataW H → Nat
  | (.string bytes, d) => bytes.length + uptoBulk d + 1
  | (_, d) => uptoBulk d + 1
 end
def uptoSmall : (H : Type) → List (DataW H) → Bool := fun _ ds => decide (uptoBulkAll ds ≤ 1048576)
def OpenSpec.upto (s : _root_.Go.ChangeSpec) : _root_.Go.OpenSpec := { _root_.Go.OpenSpec.ofChange s with cond := some uptoSmall }

/-- 'downlaw.LatticeSays', WHERE WHAT IT READS IS OF BULK AT MOST 1048576: true; the input reads as it did. -/
def latticeSaysUptoRow : OpenClaim := { program := "ytmhcameodlhloaa", sum := "91f0db923f6a2ef67b763d62221687f4b84e1a8f47998cbe952c08bd3569a73f", func := "lowdown/downlaw.LatticeSays", spec := "latticeSays", plainKeys := false, apart := false, narrowed := true }
def LatticeSaysUptoSaid : Prop := latticeSaysUptoRow.holds Try.pinned (OpenSpec.upto latticeSaysSpec)

/-- 'downlaw.LexSays', WHERE WHAT IT READS IS OF BULK AT MOST 1048576: true; the input reads as it did. -/
def lexSaysUptoRow : OpenClaim := { program := "ytmhcameodlhloaa", sum := "91f0db923f6a2ef67b763d62221687f4b84e1a8f47998cbe952c08bd3569a73f", func := "lowdown/downlaw.LexSays", spec := "lexSays", inPlace := ["internal/bytealg.IndexByteString"], plainKeys := false, apart := false, narrowed := true }
def LexSaysUptoSaid : Prop := lexSaysUptoRow.holds Try.pinned (OpenSpec.upto lexSaysSpec)

/-- 'downlaw.SolveSays', WHERE WHAT IT READS IS OF BULK AT MOST 1048576: true; the input reads as it did. -/
def solveSaysUptoRow : OpenClaim := { program := "ytmhcameodlhloaa", sum := "91f0db923f6a2ef67b763d62221687f4b84e1a8f47998cbe952c08bd3569a73f", func := "lowdown/downlaw.SolveSays", spec := "solveSays", unfollowed := true, recurses := true, plainKeys := false, apart := false, narrowed := true }
def SolveSaysUptoSaid : Prop := solveSaysUptoRow.holds Try.pinned (OpenSpec.upto solveSaysSpec)

/-- 'downlaw.LowSays', WHERE WHAT IT READS IS OF BULK AT MOST 1048576: true; the input reads as it did. -/
def lowSaysUptoRow : OpenClaim := { program := "ytmhcameodlhloaa", sum := "91f0db923f6a2ef67b763d62221687f4b84e1a8f47998cbe952c08bd3569a73f", func := "lowdown/downlaw.LowSays", spec := "lowSays", loops := true, plainKeys := false, apart := false, narrowed := true }
def LowSaysUptoSaid : Prop := lowSaysUptoRow.holds Try.pinned (OpenSpec.upto lowSaysSpec)

end Rows
end Go.Proofs.Ytmhcameodlhloaa
