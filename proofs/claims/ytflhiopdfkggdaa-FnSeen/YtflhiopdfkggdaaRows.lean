/-
  No cell of these rows narrows 'for every input' (looked for: loops, veiled, ifaces, maps, wideKeys, modest, calm, conditions, laid).
  DERIVED. THE GIVEN ROWS OF THIS SEAT. 11 by the template 'for every input the law returns true; each argument reads behind the call as it read before'; 0 by the template 'total and deterministic' (their statements: YtflhiopdfkggdaaTotals.lean).
  GIVEN WITH THE SEED: the statements are not yours to turn. If you find one false, say at which input.
  Laid BY PROGRAM, IN A SANDBOX (cutbox-rows.mjs): the forced cells as the released guide's own fill.sh prints them over the translation cdf6dc3c3d2e999e… (all of the seat's roots in one cut). By AI agents, Wed Nov 11 2026. No macro, syntax, notation, axiom, sorry.
-/
import Derived.Test.YtflhiopdfkggdaaChecked
import GoSem.Claim
import GoSem.ClaimJoined
import GoSem.ClaimMapViews
import Derived.JoinedTies
import Derived.KernelRfl
namespace Go.Proofs.Ytflhiopdfkggdaa
/- THE CELL 'sum', in the pinned program and in every row, IS THE sha256 OF THE DUMP (.gsa) THAT YtflhiopdfkggdaaProg.lean LOADS. Nothing in Lean hashes anything: it is a label: what it is worth is what the hold of that sum in a sandbox is worth. -/
noncomputable def Try.pinned : Pinned := { name := "ytflhiopdfkggdaa", sum := "cdf6dc3c3d2e999e32a839f7f7eff38bae55f0d7f7d017340285b39e5573b700", checked := Try.checked }
namespace Rows
def none {H : Type} : Left H := { results := [], args := [] }

/-- 'laws.FnSeen': WHATEVER THE INPUT: true; the input reads as it did. -/
def fnSeenSpec : ChangeSpec := { name := "fnSeen", fn := fun _ => fun
  | [d1, d2] => { results := [.lit (.bool true)], args := [d1, d2] }
  | _ => none }
def fnSeenRow : OpenClaim := { program := "ytflhiopdfkggdaa", sum := "cdf6dc3c3d2e999e32a839f7f7eff38bae55f0d7f7d017340285b39e5573b700", func := "loop.example/g00659/laws.FnSeen", spec := "fnSeen", unfollowed := true, recurses := true, apart := false }
def FnSeenSaid : Prop := fnSeenRow.holds Try.pinned (OpenSpec.ofChange fnSeenSpec)

/-- ITS FALSE NEIGHBOUR: 'it returns false'. Refute it at one input. -/
def fnSeenWrong : ChangeSpec := { name := "fnSeen", fn := fun _ => fun
  | [d1, d2] => { results := [.lit (.bool false)], args := [d1, d2] }
  | _ => none }
def FnSeenWrongFalsely : Prop := fnSeenRow.holds Try.pinned (OpenSpec.ofChange fnSeenWrong)

/-- 'laws.FnSet': WHATEVER THE INPUT: true; the input reads as it did. -/
def fnSetSpec : ChangeSpec := { name := "fnSet", fn := fun _ => fun
  | [d1, d2] => { results := [.lit (.bool true)], args := [d1, d2] }
  | _ => none }
def fnSetRow : OpenClaim := { program := "ytflhiopdfkggdaa", sum := "cdf6dc3c3d2e999e32a839f7f7eff38bae55f0d7f7d017340285b39e5573b700", func := "loop.example/g00659/laws.FnSet", spec := "fnSet", unfollowed := true, recurses := true, apart := false }
def FnSetSaid : Prop := fnSetRow.holds Try.pinned (OpenSpec.ofChange fnSetSpec)

/-- ITS FALSE NEIGHBOUR: 'it returns false'. Refute it at one input. -/
def fnSetWrong : ChangeSpec := { name := "fnSet", fn := fun _ => fun
  | [d1, d2] => { results := [.lit (.bool false)], args := [d1, d2] }
  | _ => none }
def FnSetWrongFalsely : Prop := fnSetRow.holds Try.pinned (OpenSpec.ofChange fnSetWrong)

/-- 'laws.FnSync': WHATEVER THE INPUT: true; the input reads as it did. -/
def fnSyncSpec : ChangeSpec := { name := "fnSync", fn := fun _ => fun
  | [d1, d2] => { results := [.lit (.bool true)], args := [d1, d2] }
  | _ => none }
def fnSyncRow : OpenClaim := { program := "ytflhiopdfkggdaa", sum := "cdf6dc3c3d2e999e32a839f7f7eff38bae55f0d7f7d017340285b39e5573b700", func := "loop.example/g00659/laws.FnSync", spec := "fnSync", unfollowed := true, recurses := true, apart := false }
def FnSyncSaid : Prop := fnSyncRow.holds Try.pinned (OpenSpec.ofChange fnSyncSpec)

/-- ITS FALSE NEIGHBOUR: 'it returns false'. Refute it at one input. -/
def fnSyncWrong : ChangeSpec := { name := "fnSync", fn := fun _ => fun
  | [d1, d2] => { results := [.lit (.bool false)], args := [d1, d2] }
  | _ => none }
def FnSyncWrongFalsely : Prop := fnSyncRow.holds Try.pinned (OpenSpec.ofChange fnSyncWrong)

/-- 'laws.FnExactSeenRead': WHATEVER THE INPUT: true; the input reads as it did. -/
def fnExactSeenReadSpec : ChangeSpec := { name := "fnExactSeenRead", fn := fun _ => fun
  | [d] => { results := [.lit (.bool true)], args := [d] }
  | _ => none }
def fnExactSeenReadRow : OpenClaim := { program := "ytflhiopdfkggdaa", sum := "cdf6dc3c3d2e999e32a839f7f7eff38bae55f0d7f7d017340285b39e5573b700", func := "loop.example/g00659/laws.FnExactSeenRead", spec := "fnExactSeenRead", unfollowed := true, recurses := true, apart := false }
def FnExactSeenReadSaid : Prop := fnExactSeenReadRow.holds Try.pinned (OpenSpec.ofChange fnExactSeenReadSpec)

/-- ITS FALSE NEIGHBOUR: 'it returns false'. Refute it at one input. -/
def fnExactSeenReadWrong : ChangeSpec := { name := "fnExactSeenRead", fn := fun _ => fun
  | [d] => { results := [.lit (.bool false)], args := [d] }
  | _ => none }
def FnExactSeenReadWrongFalsely : Prop := fnExactSeenReadRow.holds Try.pinned (OpenSpec.ofChange fnExactSeenReadWrong)

/-- 'laws.FnExactSetRight': WHATEVER THE INPUT: true; the input reads as it did. -/
def fnExactSetRightSpec : ChangeSpec := { name := "fnExactSetRight", fn := fun _ => fun
  | [d] => { results := [.lit (.bool true)], args := [d] }
  | _ => none }
def fnExactSetRightRow : OpenClaim := { program := "ytflhiopdfkggdaa", sum := "cdf6dc3c3d2e999e32a839f7f7eff38bae55f0d7f7d017340285b39e5573b700", func := "loop.example/g00659/laws.FnExactSetRight", spec := "fnExactSetRight", unfollowed := true, recurses := true, apart := false }
def FnExactSetRightSaid : Prop := fnExactSetRightRow.holds Try.pinned (OpenSpec.ofChange fnExactSetRightSpec)

/-- ITS FALSE NEIGHBOUR: 'it returns false'. Refute it at one input. -/
def fnExactSetRightWrong : ChangeSpec := { name := "fnExactSetRight", fn := fun _ => fun
  | [d] => { results := [.lit (.bool false)], args := [d] }
  | _ => none }
def FnExactSetRightWrongFalsely : Prop := fnExactSetRightRow.holds Try.pinned (OpenSpec.ofChange fnExactSetRightWrong)

/-- 'laws.FnExactSetPut': WHATEVER THE INPUT: true; the input reads as it did. -/
def fnExactSetPutSpec : ChangeSpec := { name := "fnExactSetPut", fn := fun _ => fun
  | [d1, d2, d3, d4, d5] => { results := [.lit (.bool true)], args := [d1, d2, d3, d4, d5] }
  | _ => none }
def fnExactSetPutRow : OpenClaim := { program := "ytflhiopdfkggdaa", sum := "cdf6dc3c3d2e999e32a839f7f7eff38bae55f0d7f7d017340285b39e5573b700", func := "loop.example/g00659/laws.FnExactSetPut", spec := "fnExactSetPut", unfollowed := true, recurses := true, apart := false }
def FnExactSetPutSaid : Prop := fnExactSetPutRow.holds Try.pinned (OpenSpec.ofChange fnExactSetPutSpec)

/-- ITS FALSE NEIGHBOUR: 'it returns false'. Refute it at one input. -/
def fnExactSetPutWrong : ChangeSpec := { name := "fnExactSetPut", fn := fun _ => fun
  | [d1, d2, d3, d4, d5] => { results := [.lit (.bool false)], args := [d1, d2, d3, d4, d5] }
  | _ => none }
def FnExactSetPutWrongFalsely : Prop := fnExactSetPutRow.holds Try.pinned (OpenSpec.ofChange fnExactSetPutWrong)

/-- 'laws.FnExactSetSync': WHATEVER THE INPUT: true; the input reads as it did. -/
def fnExactSetSyncSpec : ChangeSpec := { name := "fnExactSetSync", fn := fun _ => fun
  | [d1, d2] => { results := [.lit (.bool true)], args := [d1, d2] }
  | _ => none }
def fnExactSetSyncRow : OpenClaim := { program := "ytflhiopdfkggdaa", sum := "cdf6dc3c3d2e999e32a839f7f7eff38bae55f0d7f7d017340285b39e5573b700", func := "loop.example/g00659/laws.FnExactSetSync", spec := "fnExactSetSync", unfollowed := true, recurses := true, apart := false }
def FnExactSetSyncSaid : Prop := fnExactSetSyncRow.holds Try.pinned (OpenSpec.ofChange fnExactSetSyncSpec)

/-- ITS FALSE NEIGHBOUR: 'it returns false'. Refute it at one input. -/
def fnExactSetSyncWrong : ChangeSpec := { name := "fnExactSetSync", fn := fun _ => fun
  | [d1, d2] => { results := [.lit (.bool false)], args := [d1, d2] }
  | _ => none }
def FnExactSetSyncWrongFalsely : Prop := fnExactSetSyncRow.holds Try.pinned (OpenSpec.ofChange fnExactSetSyncWrong)

/-- 'laws.FnExactSetHas': WHATEVER THE INPUT: true; the input reads as it did. -/
def fnExactSetHasSpec : ChangeSpec := { name := "fnExactSetHas", fn := fun _ => fun
  | [d1, d2] => { results := [.lit (.bool true)], args := [d1, d2] }
  | _ => none }
def fnExactSetHasRow : OpenClaim := { program := "ytflhiopdfkggdaa", sum := "cdf6dc3c3d2e999e32a839f7f7eff38bae55f0d7f7d017340285b39e5573b700", func := "loop.example/g00659/laws.FnExactSetHas", spec := "fnExactSetHas", unfollowed := true, recurses := true, apart := false }
def FnExactSetHasSaid : Prop := fnExactSetHasRow.holds Try.pinned (OpenSpec.ofChange fnExactSetHasSpec)

/-- ITS FALSE NEIGHBOUR: 'it returns false'. Refute it at one input. -/
def fnExactSetHasWrong : ChangeSpec := { name := "fnExactSetHas", fn := fun _ => fun
  | [d1, d2] => { results := [.lit (.bool false)], args := [d1, d2] }
  | _ => none }
def FnExactSetHasWrongFalsely : Prop := fnExactSetHasRow.holds Try.pinned (OpenSpec.ofChange fnExactSetHasWrong)

/-- 'laws.FnExactValues': WHATEVER THE INPUT: true; the input reads as it did. -/
def fnExactValuesSpec : ChangeSpec := { name := "fnExactValues", fn := fun _ => fun
  | [d] => { results := [.lit (.bool true)], args := [d] }
  | _ => none }
def fnExactValuesRow : OpenClaim := { program := "ytflhiopdfkggdaa", sum := "cdf6dc3c3d2e999e32a839f7f7eff38bae55f0d7f7d017340285b39e5573b700", func := "loop.example/g00659/laws.FnExactValues", spec := "fnExactValues", unfollowed := true, recurses := true, apart := false }
def FnExactValuesSaid : Prop := fnExactValuesRow.holds Try.pinned (OpenSpec.ofChange fnExactValuesSpec)

/-- ITS FALSE NEIGHBOUR: 'it returns false'. Refute it at one input. -/
def fnExactValuesWrong : ChangeSpec := { name := "fnExactValues", fn := fun _ => fun
  | [d] => { results := [.lit (.bool false)], args := [d] }
  | _ => none }
def FnExactValuesWrongFalsely : Prop := fnExactValuesRow.holds Try.pinned (OpenSpec.ofChange fnExactValuesWrong)

/-- 'laws.FnExactSetBytes': WHATEVER THE INPUT: true; the input reads as it did. -/
def fnExactSetBytesSpec : ChangeSpec := { name := "fnExactSetBytes", fn := fun _ => fun
  | [d] => { results := [.lit (.bool true)], args := [d] }
  | _ => none }
def fnExactSetBytesRow : OpenClaim := { program := "ytflhiopdfkggdaa", sum := "cdf6dc3c3d2e999e32a839f7f7eff38bae55f0d7f7d017340285b39e5573b700", func := "loop.example/g00659/laws.FnExactSetBytes", spec := "fnExactSetBytes", unfollowed := true, recurses := true, apart := false }
def FnExactSetBytesSaid : Prop := fnExactSetBytesRow.holds Try.pinned (OpenSpec.ofChange fnExactSetBytesSpec)

/-- ITS FALSE NEIGHBOUR: 'it returns false'. Refute it at one input. -/
def fnExactSetBytesWrong : ChangeSpec := { name := "fnExactSetBytes", fn := fun _ => fun
  | [d] => { results := [.lit (.bool false)], args := [d] }
  | _ => none }
def FnExactSetBytesWrongFalsely : Prop := fnExactSetBytesRow.holds Try.pinned (OpenSpec.ofChange fnExactSetBytesWrong)

/-- 'laws.FnExactSetRead': WHATEVER THE INPUT: true; the input reads as it did. -/
def fnExactSetReadSpec : ChangeSpec := { name := "fnExactSetRead", fn := fun _ => fun
  | [d] => { results := [.lit (.bool true)], args := [d] }
  | _ => none }
def fnExactSetReadRow : OpenClaim := { program := "ytflhiopdfkggdaa", sum := "cdf6dc3c3d2e999e32a839f7f7eff38bae55f0d7f7d017340285b39e5573b700", func := "loop.example/g00659/laws.FnExactSetRead", spec := "fnExactSetRead", unfollowed := true, recurses := true, apart := false }
def FnExactSetReadSaid : Prop := fnExactSetReadRow.holds Try.pinned (OpenSpec.ofChange fnExactSetReadSpec)

/-- ITS FALSE NEIGHBOUR: 'it returns false'. Refute it at one input. -/
def fnExactSetReadWrong : ChangeSpec := { name := "fnExactSetRead", fn := fun _ => fun
  | [d] => { results := [.lit (.bool false)], args := [d] }
  | _ => none }
def FnExactSetReadWrongFalsely : Prop := fnExactSetReadRow.holds Try.pinned (OpenSpec.ofChange fnExactSetReadWrong)

/- THE SECOND FORM. 'bulk': how many values and letters a reading holds, each counted each time it is reached (what is shared counts as often as it is met; a slice's spare places count too). A statement '..UptoSaid' is the law's where the arguments, and the package variables that the reading takes, are together of bulk at most 1048576: NARROWER than '..Said'. Prove '..Said' where nothing that the law and all that it calls make is longer than what came in: it says more and counts as full. Else prove '..UptoSaid'. A law counts once. -/
mutual
def uptoBulk {H : Type} : DataW H → Nat
  | .lit (.string bytes) => bytes.length + 1
  | .lit _ => 1
  | .nil => 1
  | .ptr d => uptoBulk d + 1
  | .slice elems spare => uptoBulkAll elems + uptoBulkAll spare + 1
  | .agg parts => uptoBulkAll parts + 1
  | .iface _ d => uptoBulk d + 1
  | .map entries => uptoBulkEntries entries + 1
  | .held _ => 1
def uptoBulkAll {H : Type} : List (DataW H) → Nat
  | [] => 0
  | d :: r => uptoBulk d + uptoBulkAll r
def uptoBulkEntries {H : Type} : List (Lit × DataW H) → Nat
  | [] => 0
  | x :: r => uptoBulkEntry x + uptoBulkEntries r
def uptoBulkEntry {H : Type} : Lit × DataW H → Nat
  | (.string bytes, d) => bytes.length + uptoBulk d + 1
  | (_, d) => uptoBulk d + 1
 end
def uptoSmall : (H : Type) → List (DataW H) → Bool := fun _ ds => decide (uptoBulkAll ds ≤ 1048576)
def OpenSpec.upto (s : _root_.Go.ChangeSpec) : _root_.Go.OpenSpec := { _root_.Go.OpenSpec.ofChange s with cond := some uptoSmall }

/-- 'laws.FnSeen', WHERE WHAT IT READS IS OF BULK AT MOST 1048576: true; the input reads as it did. -/
def fnSeenUptoRow : OpenClaim := { program := "ytflhiopdfkggdaa", sum := "cdf6dc3c3d2e999e32a839f7f7eff38bae55f0d7f7d017340285b39e5573b700", func := "loop.example/g00659/laws.FnSeen", spec := "fnSeen", unfollowed := true, recurses := true, apart := false, narrowed := true }
def FnSeenUptoSaid : Prop := fnSeenUptoRow.holds Try.pinned (OpenSpec.upto fnSeenSpec)

/-- 'laws.FnSet', WHERE WHAT IT READS IS OF BULK AT MOST 1048576: true; the input reads as it did. -/
def fnSetUptoRow : OpenClaim := { program := "ytflhiopdfkggdaa", sum := "cdf6dc3c3d2e999e32a839f7f7eff38bae55f0d7f7d017340285b39e5573b700", func := "loop.example/g00659/laws.FnSet", spec := "fnSet", unfollowed := true, recurses := true, apart := false, narrowed := true }
def FnSetUptoSaid : Prop := fnSetUptoRow.holds Try.pinned (OpenSpec.upto fnSetSpec)

/-- 'laws.FnSync', WHERE WHAT IT READS IS OF BULK AT MOST 1048576: true; the input reads as it did. -/
def fnSyncUptoRow : OpenClaim := { program := "ytflhiopdfkggdaa", sum := "cdf6dc3c3d2e999e32a839f7f7eff38bae55f0d7f7d017340285b39e5573b700", func := "loop.example/g00659/laws.FnSync", spec := "fnSync", unfollowed := true, recurses := true, apart := false, narrowed := true }
def FnSyncUptoSaid : Prop := fnSyncUptoRow.holds Try.pinned (OpenSpec.upto fnSyncSpec)

/-- 'laws.FnExactSeenRead', WHERE WHAT IT READS IS OF BULK AT MOST 1048576: true; the input reads as it did. -/
def fnExactSeenReadUptoRow : OpenClaim := { program := "ytflhiopdfkggdaa", sum := "cdf6dc3c3d2e999e32a839f7f7eff38bae55f0d7f7d017340285b39e5573b700", func := "loop.example/g00659/laws.FnExactSeenRead", spec := "fnExactSeenRead", unfollowed := true, recurses := true, apart := false, narrowed := true }
def FnExactSeenReadUptoSaid : Prop := fnExactSeenReadUptoRow.holds Try.pinned (OpenSpec.upto fnExactSeenReadSpec)

/-- 'laws.FnExactSetRight', WHERE WHAT IT READS IS OF BULK AT MOST 1048576: true; the input reads as it did. -/
def fnExactSetRightUptoRow : OpenClaim := { program := "ytflhiopdfkggdaa", sum := "cdf6dc3c3d2e999e32a839f7f7eff38bae55f0d7f7d017340285b39e5573b700", func := "loop.example/g00659/laws.FnExactSetRight", spec := "fnExactSetRight", unfollowed := true, recurses := true, apart := false, narrowed := true }
def FnExactSetRightUptoSaid : Prop := fnExactSetRightUptoRow.holds Try.pinned (OpenSpec.upto fnExactSetRightSpec)

/-- 'laws.FnExactSetPut', WHERE WHAT IT READS IS OF BULK AT MOST 1048576: true; the input reads as it did. -/
def fnExactSetPutUptoRow : OpenClaim := { program := "ytflhiopdfkggdaa", sum := "cdf6dc3c3d2e999e32a839f7f7eff38bae55f0d7f7d017340285b39e5573b700", func := "loop.example/g00659/laws.FnExactSetPut", spec := "fnExactSetPut", unfollowed := true, recurses := true, apart := false, narrowed := true }
def FnExactSetPutUptoSaid : Prop := fnExactSetPutUptoRow.holds Try.pinned (OpenSpec.upto fnExactSetPutSpec)

/-- 'laws.FnExactSetSync', WHERE WHAT IT READS IS OF BULK AT MOST 1048576: true; the input reads as it did. -/
def fnExactSetSyncUptoRow : OpenClaim := { program := "ytflhiopdfkggdaa", sum := "cdf6dc3c3d2e999e32a839f7f7eff38bae55f0d7f7d017340285b39e5573b700", func := "loop.example/g00659/laws.FnExactSetSync", spec := "fnExactSetSync", unfollowed := true, recurses := true, apart := false, narrowed := true }
def FnExactSetSyncUptoSaid : Prop := fnExactSetSyncUptoRow.holds Try.pinned (OpenSpec.upto fnExactSetSyncSpec)

/-- 'laws.FnExactSetHas', WHERE WHAT IT READS IS OF BULK AT MOST 1048576: true; the input reads as it did. -/
def fnExactSetHasUptoRow : OpenClaim := { program := "ytflhiopdfkggdaa", sum := "cdf6dc3c3d2e999e32a839f7f7eff38bae55f0d7f7d017340285b39e5573b700", func := "loop.example/g00659/laws.FnExactSetHas", spec := "fnExactSetHas", unfollowed := true, recurses := true, apart := false, narrowed := true }
def FnExactSetHasUptoSaid : Prop := fnExactSetHasUptoRow.holds Try.pinned (OpenSpec.upto fnExactSetHasSpec)

/-- 'laws.FnExactValues', WHERE WHAT IT READS IS OF BULK AT MOST 1048576: true; the input reads as it did. -/
def fnExactValuesUptoRow : OpenClaim := { program := "ytflhiopdfkggdaa", sum := "cdf6dc3c3d2e999e32a839f7f7eff38bae55f0d7f7d017340285b39e5573b700", func := "loop.example/g00659/laws.FnExactValues", spec := "fnExactValues", unfollowed := true, recurses := true, apart := false, narrowed := true }
def FnExactValuesUptoSaid : Prop := fnExactValuesUptoRow.holds Try.pinned (OpenSpec.upto fnExactValuesSpec)

/-- 'laws.FnExactSetBytes', WHERE WHAT IT READS IS OF BULK AT MOST 1048576: true; the input reads as it did. -/
def fnExactSetBytesUptoRow : OpenClaim := { program := "ytflhiopdfkggdaa", sum := "cdf6dc3c3d2e999e32a839f7f7eff38bae55f0d7f7d017340285b39e5573b700", func := "loop.example/g00659/laws.FnExactSetBytes", spec := "fnExactSetBytes", unfollowed := true, recurses := true, apart := false, narrowed := true }
def FnExactSetBytesUptoSaid : Prop := fnExactSetBytesUptoRow.holds Try.pinned (OpenSpec.upto fnExactSetBytesSpec)

/-- 'laws.FnExactSetRead', WHERE WHAT IT READS IS OF BULK AT MOST 1048576: true; the input reads as it did. -/
def fnExactSetReadUptoRow : OpenClaim := { program := "ytflhiopdfkggdaa", sum := "cdf6dc3c3d2e999e32a839f7f7eff38bae55f0d7f7d017340285b39e5573b700", func := "loop.example/g00659/laws.FnExactSetRead", spec := "fnExactSetRead", unfollowed := true, recurses := true, apart := false, narrowed := true }
def FnExactSetReadUptoSaid : Prop := fnExactSetReadUptoRow.holds Try.pinned (OpenSpec.upto fnExactSetReadSpec)

end Rows
end Go.Proofs.Ytflhiopdfkggdaa
