/-
  No cell of these rows narrows 'for every input' (looked for: loops, veiled, ifaces, maps, wideKeys, modest, calm, conditions, laid).
  DERIVED. THE GIVEN ROWS OF THIS SEAT. 4 by the template 'for every input the law returns true; each argument reads behind the call as it read before'; 0 by the template 'total and deterministic' (their statements: YtloenigleamcoaaTotals.lean).
  GIVEN WITH THE SEED: the statements are not yours to turn. If you find one false, say at which input.
  Laid BY PROGRAM, IN A SANDBOX (cutbox-rows.mjs): the forced cells as the released guide's own fill.sh prints them over the translation e256bf50f3546575… (all of the seat's roots in one cut). By AI agents, Wed Nov 11 2026. No macro, syntax, notation, axiom, sorry.
-/
import Derived.Test.YtloenigleamcoaaChecked
import GoSem.Claim
import GoSem.ClaimJoined
import GoSem.ClaimMapViews
import Derived.JoinedTies
import Derived.KernelRfl
namespace Go.Proofs.Ytloenigleamcoaa
/- THE CELL 'sum', in the pinned program and in every row, IS THE sha256 OF THE DUMP (.gsa) THAT YtloenigleamcoaaProg.lean LOADS. Nothing in Lean hashes anything: it is a label: what it is worth is what the hold of that sum in a sandbox is worth. -/
noncomputable def Try.pinned : Pinned := { name := "ytloenigleamcoaa", sum := "e256bf50f35465758b91738009133b8ed5ab5c6d9b197746266c4cff4852edd8", checked := Try.checked }
namespace Rows
def none {H : Type} : Left H := { results := [], args := [] }

/-- 'laws.FnExactMsgRight': WHATEVER THE INPUT: true; the input reads as it did. -/
def fnExactMsgRightSpec : ChangeSpec := { name := "fnExactMsgRight", fn := fun _ => fun
  | [d] => { results := [.lit (.bool true)], args := [d] }
  | _ => none }
def fnExactMsgRightRow : OpenClaim := { program := "ytloenigleamcoaa", sum := "e256bf50f35465758b91738009133b8ed5ab5c6d9b197746266c4cff4852edd8", func := "loop.example/g00659/laws.FnExactMsgRight", spec := "fnExactMsgRight", unfollowed := true, recurses := true, apart := false }
def FnExactMsgRightSaid : Prop := fnExactMsgRightRow.holds Try.pinned (OpenSpec.ofChange fnExactMsgRightSpec)

/-- ITS FALSE NEIGHBOUR: 'it returns false'. Refute it at one input. -/
def fnExactMsgRightWrong : ChangeSpec := { name := "fnExactMsgRight", fn := fun _ => fun
  | [d] => { results := [.lit (.bool false)], args := [d] }
  | _ => none }
def FnExactMsgRightWrongFalsely : Prop := fnExactMsgRightRow.holds Try.pinned (OpenSpec.ofChange fnExactMsgRightWrong)

/-- 'laws.FnExactMsgBytes': WHATEVER THE INPUT: true; the input reads as it did. -/
def fnExactMsgBytesSpec : ChangeSpec := { name := "fnExactMsgBytes", fn := fun _ => fun
  | [d] => { results := [.lit (.bool true)], args := [d] }
  | _ => none }
def fnExactMsgBytesRow : OpenClaim := { program := "ytloenigleamcoaa", sum := "e256bf50f35465758b91738009133b8ed5ab5c6d9b197746266c4cff4852edd8", func := "loop.example/g00659/laws.FnExactMsgBytes", spec := "fnExactMsgBytes", unfollowed := true, recurses := true, apart := false }
def FnExactMsgBytesSaid : Prop := fnExactMsgBytesRow.holds Try.pinned (OpenSpec.ofChange fnExactMsgBytesSpec)

/-- ITS FALSE NEIGHBOUR: 'it returns false'. Refute it at one input. -/
def fnExactMsgBytesWrong : ChangeSpec := { name := "fnExactMsgBytes", fn := fun _ => fun
  | [d] => { results := [.lit (.bool false)], args := [d] }
  | _ => none }
def FnExactMsgBytesWrongFalsely : Prop := fnExactMsgBytesRow.holds Try.pinned (OpenSpec.ofChange fnExactMsgBytesWrong)

/-- 'laws.FnExactMsgRead': WHATEVER THE INPUT: true; the input reads as it did. -/
def fnExactMsgReadSpec : ChangeSpec := { name := "fnExactMsgRead", fn := fun _ => fun
  | [d] => { results := [.lit (.bool true)], args := [d] }
  | _ => none }
def fnExactMsgReadRow : OpenClaim := { program := "ytloenigleamcoaa", sum := "e256bf50f35465758b91738009133b8ed5ab5c6d9b197746266c4cff4852edd8", func := "loop.example/g00659/laws.FnExactMsgRead", spec := "fnExactMsgRead", unfollowed := true, recurses := true, apart := false }
def FnExactMsgReadSaid : Prop := fnExactMsgReadRow.holds Try.pinned (OpenSpec.ofChange fnExactMsgReadSpec)

/-- ITS FALSE NEIGHBOUR: 'it returns false'. Refute it at one input. -/
def fnExactMsgReadWrong : ChangeSpec := { name := "fnExactMsgRead", fn := fun _ => fun
  | [d] => { results := [.lit (.bool false)], args := [d] }
  | _ => none }
def FnExactMsgReadWrongFalsely : Prop := fnExactMsgReadRow.holds Try.pinned (OpenSpec.ofChange fnExactMsgReadWrong)

/-- 'laws.FnExactMsgTurn': WHATEVER THE INPUT: true; the input reads as it did. -/
def fnExactMsgTurnSpec : ChangeSpec := { name := "fnExactMsgTurn", fn := fun _ => fun
  | [d1, d2, d3] => { results := [.lit (.bool true)], args := [d1, d2, d3] }
  | _ => none }
def fnExactMsgTurnRow : OpenClaim := { program := "ytloenigleamcoaa", sum := "e256bf50f35465758b91738009133b8ed5ab5c6d9b197746266c4cff4852edd8", func := "loop.example/g00659/laws.FnExactMsgTurn", spec := "fnExactMsgTurn", unfollowed := true, recurses := true, apart := false }
def FnExactMsgTurnSaid : Prop := fnExactMsgTurnRow.holds Try.pinned (OpenSpec.ofChange fnExactMsgTurnSpec)

/-- ITS FALSE NEIGHBOUR: 'it returns false'. Refute it at one input. -/
def fnExactMsgTurnWrong : ChangeSpec := { name := "fnExactMsgTurn", fn := fun _ => fun
  | [d1, d2, d3] => { results := [.lit (.bool false)], args := [d1, d2, d3] }
  | _ => none }
def FnExactMsgTurnWrongFalsely : Prop := fnExactMsgTurnRow.holds Try.pinned (OpenSpec.ofChange fnExactMsgTurnWrong)

/- THE SECOND FORM. 'bulk': how many values and letters a reading holds, each counted each time it is reached (what is shared counts as often as it is met; a slice's spare places count too). A statement '..UptoSaid' is the law's where the arguments, and the package variables that the reading takes, are together of bulk at most 1048576: NARROWER than '..Said'. Prove '..Said' where nothing that the law and all that it calls make is longer than what came in: it says more and counts as full. Else prove '..UptoSaid'. A law counts once. -/
mutual
def uptoBulk {H : Type} : DataW H → Nat
  | .lit (.string bytes) => bytes.length + 1
  | .lit _ => 1
  | .nil => 1
  | .ptr d => uptoBulk d + 1
  | .slice elems spare => uptoBulkAll elems + uptoBulkAll spare + 1
  | .agg parts => uptoBulkAll parts + 1
  | .iface _ d => uptoBulk d + 1
  | .map entries => uptoBulkEntries entries + 1
  | .held _ => 1
def uptoBulkAll {H : Type} : List (DataW H) → Nat
  | [] => 0
  | d :: r => uptoBulk d + uptoBulkAll r
def uptoBulkEntries {H : Type} : List (Lit × DataW H) → Nat
  | [] => 0
  | x :: r => uptoBulkEntry x + uptoBulkEntries r
def uptoBulkEntry {H : Type} : Lit × DataW H → Nat
  | (.string bytes, d) => bytes.length + uptoBulk d + 1
  | (_, d) => uptoBulk d + 1
 end
def uptoSmall : (H : Type) → List (DataW H) → Bool := fun _ ds => decide (uptoBulkAll ds ≤ 1048576)
def OpenSpec.upto (s : _root_.Go.ChangeSpec) : _root_.Go.OpenSpec := { _root_.Go.OpenSpec.ofChange s with cond := some uptoSmall }

/-- 'laws.FnExactMsgRight', WHERE WHAT IT READS IS OF BULK AT MOST 1048576: true; the input reads as it did. -/
def fnExactMsgRightUptoRow : OpenClaim := { program := "ytloenigleamcoaa", sum := "e256bf50f35465758b91738009133b8ed5ab5c6d9b197746266c4cff4852edd8", func := "loop.example/g00659/laws.FnExactMsgRight", spec := "fnExactMsgRight", unfollowed := true, recurses := true, apart := false, narrowed := true }
def FnExactMsgRightUptoSaid : Prop := fnExactMsgRightUptoRow.holds Try.pinned (OpenSpec.upto fnExactMsgRightSpec)

/-- 'laws.FnExactMsgBytes', WHERE WHAT IT READS IS OF BULK AT MOST 1048576: true; the input reads as it did. -/
def fnExactMsgBytesUptoRow : OpenClaim := { program := "ytloenigleamcoaa", sum := "e256bf50f35465758b91738009133b8ed5ab5c6d9b197746266c4cff4852edd8", func := "loop.example/g00659/laws.FnExactMsgBytes", spec := "fnExactMsgBytes", unfollowed := true, recurses := true, apart := false, narrowed := true }
def FnExactMsgBytesUptoSaid : Prop := fnExactMsgBytesUptoRow.holds Try.pinned (OpenSpec.upto fnExactMsgBytesSpec)

/-- 'laws.FnExactMsgRead', WHERE WHAT IT READS IS OF BULK AT MOST 1048576: true; the input reads as it did. -/
def fnExactMsgReadUptoRow : OpenClaim := { program := "ytloenigleamcoaa", sum := "e256bf50f35465758b91738009133b8ed5ab5c6d9b197746266c4cff4852edd8", func := "loop.example/g00659/laws.FnExactMsgRead", spec := "fnExactMsgRead", unfollowed := true, recurses := true, apart := false, narrowed := true }
def FnExactMsgReadUptoSaid : Prop := fnExactMsgReadUptoRow.holds Try.pinned (OpenSpec.upto fnExactMsgReadSpec)

/-- 'laws.FnExactMsgTurn', WHERE WHAT IT READS IS OF BULK AT MOST 1048576: true; the input reads as it did. -/
def fnExactMsgTurnUptoRow : OpenClaim := { program := "ytloenigleamcoaa", sum := "e256bf50f35465758b91738009133b8ed5ab5c6d9b197746266c4cff4852edd8", func := "loop.example/g00659/laws.FnExactMsgTurn", spec := "fnExactMsgTurn", unfollowed := true, recurses := true, apart := false, narrowed := true }
def FnExactMsgTurnUptoSaid : Prop := fnExactMsgTurnUptoRow.holds Try.pinned (OpenSpec.upto fnExactMsgTurnSpec)

end Rows
end Go.Proofs.Ytloenigleamcoaa
