/-
  No cell of these rows narrows 'for every input' (looked for: loops, veiled, ifaces, maps, wideKeys, modest, calm, conditions, laid).
  DERIVED. THE GIVEN ROWS OF THIS SEAT. 9 by the template 'for every input the law returns true; each argument reads behind the call as it read before'; 0 by the template 'total and deterministic' (their statements: YtnlkejneinnbjaaTotals.lean).
  GIVEN WITH THE SEED: the statements are not yours to turn. If you find one false, say at which input.
  Laid BY PROGRAM, IN A SANDBOX (cutbox-rows.mjs): the forced cells as the released guide's own fill.sh prints them over the translation 3c58e4f3680a9030… (all of the seat's roots in one cut). By AI agents, Wed Nov 11 2026. No macro, syntax, notation, axiom, sorry.
-/
import Derived.Test.YtnlkejneinnbjaaChecked
import GoSem.Claim
import GoSem.ClaimJoined
import GoSem.ClaimMapViews
import Derived.JoinedTies
import Derived.KernelRfl
namespace Go.Proofs.Ytnlkejneinnbjaa
/- THE CELL 'sum', in the pinned program and in every row, IS THE sha256 OF THE DUMP (.gsa) THAT YtnlkejneinnbjaaProg.lean LOADS. Nothing in Lean hashes anything: it is a label: what it is worth is what the hold of that sum in a sandbox is worth. -/
noncomputable def Try.pinned : Pinned := { name := "ytnlkejneinnbjaa", sum := "3c58e4f3680a9030ed473eb5d806b47e6beb9d4a920b77cab8abc02a2250be55", checked := Try.checked }
namespace Rows
def none {H : Type} : Left H := { results := [], args := [] }

/-- 'laws.FnSeen': WHATEVER THE INPUT: true; the input reads as it did. -/
def fnSeenSpec : ChangeSpec := { name := "fnSeen", fn := fun _ => fun
  | [d1, d2] => { results := [.lit (.bool true)], args := [d1, d2] }
  | _ => none }
def fnSeenRow : OpenClaim := { program := "ytnlkejneinnbjaa", sum := "3c58e4f3680a9030ed473eb5d806b47e6beb9d4a920b77cab8abc02a2250be55", func := "loop.example/g00659/laws.FnSeen", spec := "fnSeen", apart := false }
def FnSeenSaid : Prop := fnSeenRow.holds Try.pinned (OpenSpec.ofChange fnSeenSpec)

/-- ITS FALSE NEIGHBOUR: 'it returns false'. Refute it at one input. -/
def fnSeenWrong : ChangeSpec := { name := "fnSeen", fn := fun _ => fun
  | [d1, d2] => { results := [.lit (.bool false)], args := [d1, d2] }
  | _ => none }
def FnSeenWrongFalsely : Prop := fnSeenRow.holds Try.pinned (OpenSpec.ofChange fnSeenWrong)

/-- 'laws.FnExactSeenRight': WHATEVER THE INPUT: true; the input reads as it did. -/
def fnExactSeenRightSpec : ChangeSpec := { name := "fnExactSeenRight", fn := fun _ => fun
  | [d] => { results := [.lit (.bool true)], args := [d] }
  | _ => none }
def fnExactSeenRightRow : OpenClaim := { program := "ytnlkejneinnbjaa", sum := "3c58e4f3680a9030ed473eb5d806b47e6beb9d4a920b77cab8abc02a2250be55", func := "loop.example/g00659/laws.FnExactSeenRight", spec := "fnExactSeenRight", apart := false }
def FnExactSeenRightSaid : Prop := fnExactSeenRightRow.holds Try.pinned (OpenSpec.ofChange fnExactSeenRightSpec)

/-- ITS FALSE NEIGHBOUR: 'it returns false'. Refute it at one input. -/
def fnExactSeenRightWrong : ChangeSpec := { name := "fnExactSeenRight", fn := fun _ => fun
  | [d] => { results := [.lit (.bool false)], args := [d] }
  | _ => none }
def FnExactSeenRightWrongFalsely : Prop := fnExactSeenRightRow.holds Try.pinned (OpenSpec.ofChange fnExactSeenRightWrong)

/-- 'laws.FnExactSeenOf': WHATEVER THE INPUT: true; the input reads as it did. -/
def fnExactSeenOfSpec : ChangeSpec := { name := "fnExactSeenOf", fn := fun _ => fun
  | [d1, d2] => { results := [.lit (.bool true)], args := [d1, d2] }
  | _ => none }
def fnExactSeenOfRow : OpenClaim := { program := "ytnlkejneinnbjaa", sum := "3c58e4f3680a9030ed473eb5d806b47e6beb9d4a920b77cab8abc02a2250be55", func := "loop.example/g00659/laws.FnExactSeenOf", spec := "fnExactSeenOf", apart := false }
def FnExactSeenOfSaid : Prop := fnExactSeenOfRow.holds Try.pinned (OpenSpec.ofChange fnExactSeenOfSpec)

/-- ITS FALSE NEIGHBOUR: 'it returns false'. Refute it at one input. -/
def fnExactSeenOfWrong : ChangeSpec := { name := "fnExactSeenOf", fn := fun _ => fun
  | [d1, d2] => { results := [.lit (.bool false)], args := [d1, d2] }
  | _ => none }
def FnExactSeenOfWrongFalsely : Prop := fnExactSeenOfRow.holds Try.pinned (OpenSpec.ofChange fnExactSeenOfWrong)

/-- 'laws.FnExactSeenHas': WHATEVER THE INPUT: true; the input reads as it did. -/
def fnExactSeenHasSpec : ChangeSpec := { name := "fnExactSeenHas", fn := fun _ => fun
  | [d1, d2] => { results := [.lit (.bool true)], args := [d1, d2] }
  | _ => none }
def fnExactSeenHasRow : OpenClaim := { program := "ytnlkejneinnbjaa", sum := "3c58e4f3680a9030ed473eb5d806b47e6beb9d4a920b77cab8abc02a2250be55", func := "loop.example/g00659/laws.FnExactSeenHas", spec := "fnExactSeenHas", apart := false }
def FnExactSeenHasSaid : Prop := fnExactSeenHasRow.holds Try.pinned (OpenSpec.ofChange fnExactSeenHasSpec)

/-- ITS FALSE NEIGHBOUR: 'it returns false'. Refute it at one input. -/
def fnExactSeenHasWrong : ChangeSpec := { name := "fnExactSeenHas", fn := fun _ => fun
  | [d1, d2] => { results := [.lit (.bool false)], args := [d1, d2] }
  | _ => none }
def FnExactSeenHasWrongFalsely : Prop := fnExactSeenHasRow.holds Try.pinned (OpenSpec.ofChange fnExactSeenHasWrong)

/-- 'laws.FnExactSeenJoin': WHATEVER THE INPUT: true; the input reads as it did. -/
def fnExactSeenJoinSpec : ChangeSpec := { name := "fnExactSeenJoin", fn := fun _ => fun
  | [d1, d2] => { results := [.lit (.bool true)], args := [d1, d2] }
  | _ => none }
def fnExactSeenJoinRow : OpenClaim := { program := "ytnlkejneinnbjaa", sum := "3c58e4f3680a9030ed473eb5d806b47e6beb9d4a920b77cab8abc02a2250be55", func := "loop.example/g00659/laws.FnExactSeenJoin", spec := "fnExactSeenJoin", apart := false }
def FnExactSeenJoinSaid : Prop := fnExactSeenJoinRow.holds Try.pinned (OpenSpec.ofChange fnExactSeenJoinSpec)

/-- ITS FALSE NEIGHBOUR: 'it returns false'. Refute it at one input. -/
def fnExactSeenJoinWrong : ChangeSpec := { name := "fnExactSeenJoin", fn := fun _ => fun
  | [d1, d2] => { results := [.lit (.bool false)], args := [d1, d2] }
  | _ => none }
def FnExactSeenJoinWrongFalsely : Prop := fnExactSeenJoinRow.holds Try.pinned (OpenSpec.ofChange fnExactSeenJoinWrong)

/-- 'laws.FnExactSeenLess': WHATEVER THE INPUT: true; the input reads as it did. -/
def fnExactSeenLessSpec : ChangeSpec := { name := "fnExactSeenLess", fn := fun _ => fun
  | [d1, d2] => { results := [.lit (.bool true)], args := [d1, d2] }
  | _ => none }
def fnExactSeenLessRow : OpenClaim := { program := "ytnlkejneinnbjaa", sum := "3c58e4f3680a9030ed473eb5d806b47e6beb9d4a920b77cab8abc02a2250be55", func := "loop.example/g00659/laws.FnExactSeenLess", spec := "fnExactSeenLess", apart := false }
def FnExactSeenLessSaid : Prop := fnExactSeenLessRow.holds Try.pinned (OpenSpec.ofChange fnExactSeenLessSpec)

/-- ITS FALSE NEIGHBOUR: 'it returns false'. Refute it at one input. -/
def fnExactSeenLessWrong : ChangeSpec := { name := "fnExactSeenLess", fn := fun _ => fun
  | [d1, d2] => { results := [.lit (.bool false)], args := [d1, d2] }
  | _ => none }
def FnExactSeenLessWrongFalsely : Prop := fnExactSeenLessRow.holds Try.pinned (OpenSpec.ofChange fnExactSeenLessWrong)

/-- 'laws.FnExactSeenPut': WHATEVER THE INPUT: true; the input reads as it did. -/
def fnExactSeenPutSpec : ChangeSpec := { name := "fnExactSeenPut", fn := fun _ => fun
  | [d1, d2] => { results := [.lit (.bool true)], args := [d1, d2] }
  | _ => none }
def fnExactSeenPutRow : OpenClaim := { program := "ytnlkejneinnbjaa", sum := "3c58e4f3680a9030ed473eb5d806b47e6beb9d4a920b77cab8abc02a2250be55", func := "loop.example/g00659/laws.FnExactSeenPut", spec := "fnExactSeenPut", apart := false }
def FnExactSeenPutSaid : Prop := fnExactSeenPutRow.holds Try.pinned (OpenSpec.ofChange fnExactSeenPutSpec)

/-- ITS FALSE NEIGHBOUR: 'it returns false'. Refute it at one input. -/
def fnExactSeenPutWrong : ChangeSpec := { name := "fnExactSeenPut", fn := fun _ => fun
  | [d1, d2] => { results := [.lit (.bool false)], args := [d1, d2] }
  | _ => none }
def FnExactSeenPutWrongFalsely : Prop := fnExactSeenPutRow.holds Try.pinned (OpenSpec.ofChange fnExactSeenPutWrong)

/-- 'laws.FnExactSeenBytes': WHATEVER THE INPUT: true; the input reads as it did. -/
def fnExactSeenBytesSpec : ChangeSpec := { name := "fnExactSeenBytes", fn := fun _ => fun
  | [d] => { results := [.lit (.bool true)], args := [d] }
  | _ => none }
def fnExactSeenBytesRow : OpenClaim := { program := "ytnlkejneinnbjaa", sum := "3c58e4f3680a9030ed473eb5d806b47e6beb9d4a920b77cab8abc02a2250be55", func := "loop.example/g00659/laws.FnExactSeenBytes", spec := "fnExactSeenBytes", apart := false }
def FnExactSeenBytesSaid : Prop := fnExactSeenBytesRow.holds Try.pinned (OpenSpec.ofChange fnExactSeenBytesSpec)

/-- ITS FALSE NEIGHBOUR: 'it returns false'. Refute it at one input. -/
def fnExactSeenBytesWrong : ChangeSpec := { name := "fnExactSeenBytes", fn := fun _ => fun
  | [d] => { results := [.lit (.bool false)], args := [d] }
  | _ => none }
def FnExactSeenBytesWrongFalsely : Prop := fnExactSeenBytesRow.holds Try.pinned (OpenSpec.ofChange fnExactSeenBytesWrong)

/-- 'laws.FnExactSeenRead': WHATEVER THE INPUT: true; the input reads as it did. -/
def fnExactSeenReadSpec : ChangeSpec := { name := "fnExactSeenRead", fn := fun _ => fun
  | [d] => { results := [.lit (.bool true)], args := [d] }
  | _ => none }
def fnExactSeenReadRow : OpenClaim := { program := "ytnlkejneinnbjaa", sum := "3c58e4f3680a9030ed473eb5d806b47e6beb9d4a920b77cab8abc02a2250be55", func := "loop.example/g00659/laws.FnExactSeenRead", spec := "fnExactSeenRead", apart := false }
def FnExactSeenReadSaid : Prop := fnExactSeenReadRow.holds Try.pinned (OpenSpec.ofChange fnExactSeenReadSpec)

/-- ITS FALSE NEIGHBOUR: 'it returns false'. Refute it at one input. -/
def fnExactSeenReadWrong : ChangeSpec := { name := "fnExactSeenRead", fn := fun _ => fun
  | [d] => { results := [.lit (.bool false)], args := [d] }
  | _ => none }
def FnExactSeenReadWrongFalsely : Prop := fnExactSeenReadRow.holds Try.pinned (OpenSpec.ofChange fnExactSeenReadWrong)

/- THE SECOND FORM. 'bulk': how many values and letters a reading holds, each counted each time it is reached (what is shared counts as often as it is met; a slice's spare places count too). A statement '..UptoSaid' is the law's where the arguments, and the package variables that the reading takes, are together of bulk at most 1048576: NARROWER than '..Said'. Prove '..Said' where nothing that the law and all that it calls make is longer than what came in: it says more and counts as full. Else prove '..UptoSaid'. A law counts once. -/
mutual
def uptoBulk {H : Type} : DataW H → Nat
  | .lit (.string bytes) => bytes.length + 1
  | .lit _ => 1
  | .nil => 1
  | .ptr d => uptoBulk d + 1
  | .slice elems spare => uptoBulkAll elems + uptoBulkAll spare + 1
  | .agg parts => uptoBulkAll parts + 1
  | .iface _ d => uptoBulk d + 1
  | .map entries => uptoBulkEntries entries + 1
  | .held _ => 1
def uptoBulkAll {H : Type} : List (DataW H) → Nat
  | [] => 0
  | d :: r => uptoBulk d + uptoBulkAll r
def uptoBulkEntries {H : Type} : List (Lit × DataW H) → Nat
  | [] => 0
  | x :: r => uptoBulkEntry x + uptoBulkEntries r
def uptoBulkEntry {H : Type} : Lit × DataW H → Nat
  | (.string bytes, d) => bytes.length + uptoBulk d + 1
  | (_, d) => uptoBulk d + 1
 end
def uptoSmall : (H : Type) → List (DataW H) → Bool := fun _ ds => decide (uptoBulkAll ds ≤ 1048576)
def OpenSpec.upto (s : _root_.Go.ChangeSpec) : _root_.Go.OpenSpec := { _root_.Go.OpenSpec.ofChange s with cond := some uptoSmall }

/-- 'laws.FnSeen', WHERE WHAT IT READS IS OF BULK AT MOST 1048576: true; the input reads as it did. -/
def fnSeenUptoRow : OpenClaim := { program := "ytnlkejneinnbjaa", sum := "3c58e4f3680a9030ed473eb5d806b47e6beb9d4a920b77cab8abc02a2250be55", func := "loop.example/g00659/laws.FnSeen", spec := "fnSeen", apart := false, narrowed := true }
def FnSeenUptoSaid : Prop := fnSeenUptoRow.holds Try.pinned (OpenSpec.upto fnSeenSpec)

/-- 'laws.FnExactSeenRight', WHERE WHAT IT READS IS OF BULK AT MOST 1048576: true; the input reads as it did. -/
def fnExactSeenRightUptoRow : OpenClaim := { program := "ytnlkejneinnbjaa", sum := "3c58e4f3680a9030ed473eb5d806b47e6beb9d4a920b77cab8abc02a2250be55", func := "loop.example/g00659/laws.FnExactSeenRight", spec := "fnExactSeenRight", apart := false, narrowed := true }
def FnExactSeenRightUptoSaid : Prop := fnExactSeenRightUptoRow.holds Try.pinned (OpenSpec.upto fnExactSeenRightSpec)

/-- 'laws.FnExactSeenOf', WHERE WHAT IT READS IS OF BULK AT MOST 1048576: true; the input reads as it did. -/
def fnExactSeenOfUptoRow : OpenClaim := { program := "ytnlkejneinnbjaa", sum := "3c58e4f3680a9030ed473eb5d806b47e6beb9d4a920b77cab8abc02a2250be55", func := "loop.example/g00659/laws.FnExactSeenOf", spec := "fnExactSeenOf", apart := false, narrowed := true }
def FnExactSeenOfUptoSaid : Prop := fnExactSeenOfUptoRow.holds Try.pinned (OpenSpec.upto fnExactSeenOfSpec)

/-- 'laws.FnExactSeenHas', WHERE WHAT IT READS IS OF BULK AT MOST 1048576: true; the input reads as it did. -/
def fnExactSeenHasUptoRow : OpenClaim := { program := "ytnlkejneinnbjaa", sum := "3c58e4f3680a9030ed473eb5d806b47e6beb9d4a920b77cab8abc02a2250be55", func := "loop.example/g00659/laws.FnExactSeenHas", spec := "fnExactSeenHas", apart := false, narrowed := true }
def FnExactSeenHasUptoSaid : Prop := fnExactSeenHasUptoRow.holds Try.pinned (OpenSpec.upto fnExactSeenHasSpec)

/-- 'laws.FnExactSeenJoin', WHERE WHAT IT READS IS OF BULK AT MOST 1048576: true; the input reads as it did. -/
def fnExactSeenJoinUptoRow : OpenClaim := { program := "ytnlkejneinnbjaa", sum := "3c58e4f3680a9030ed473eb5d806b47e6beb9d4a920b77cab8abc02a2250be55", func := "loop.example/g00659/laws.FnExactSeenJoin", spec := "fnExactSeenJoin", apart := false, narrowed := true }
def FnExactSeenJoinUptoSaid : Prop := fnExactSeenJoinUptoRow.holds Try.pinned (OpenSpec.upto fnExactSeenJoinSpec)

/-- 'laws.FnExactSeenLess', WHERE WHAT IT READS IS OF BULK AT MOST 1048576: true; the input reads as it did. -/
def fnExactSeenLessUptoRow : OpenClaim := { program := "ytnlkejneinnbjaa", sum := "3c58e4f3680a9030ed473eb5d806b47e6beb9d4a920b77cab8abc02a2250be55", func := "loop.example/g00659/laws.FnExactSeenLess", spec := "fnExactSeenLess", apart := false, narrowed := true }
def FnExactSeenLessUptoSaid : Prop := fnExactSeenLessUptoRow.holds Try.pinned (OpenSpec.upto fnExactSeenLessSpec)

/-- 'laws.FnExactSeenPut', WHERE WHAT IT READS IS OF BULK AT MOST 1048576: true; the input reads as it did. -/
def fnExactSeenPutUptoRow : OpenClaim := { program := "ytnlkejneinnbjaa", sum := "3c58e4f3680a9030ed473eb5d806b47e6beb9d4a920b77cab8abc02a2250be55", func := "loop.example/g00659/laws.FnExactSeenPut", spec := "fnExactSeenPut", apart := false, narrowed := true }
def FnExactSeenPutUptoSaid : Prop := fnExactSeenPutUptoRow.holds Try.pinned (OpenSpec.upto fnExactSeenPutSpec)

/-- 'laws.FnExactSeenBytes', WHERE WHAT IT READS IS OF BULK AT MOST 1048576: true; the input reads as it did. -/
def fnExactSeenBytesUptoRow : OpenClaim := { program := "ytnlkejneinnbjaa", sum := "3c58e4f3680a9030ed473eb5d806b47e6beb9d4a920b77cab8abc02a2250be55", func := "loop.example/g00659/laws.FnExactSeenBytes", spec := "fnExactSeenBytes", apart := false, narrowed := true }
def FnExactSeenBytesUptoSaid : Prop := fnExactSeenBytesUptoRow.holds Try.pinned (OpenSpec.upto fnExactSeenBytesSpec)

/-- 'laws.FnExactSeenRead', WHERE WHAT IT READS IS OF BULK AT MOST 1048576: true; the input reads as it did. -/
def fnExactSeenReadUptoRow : OpenClaim := { program := "ytnlkejneinnbjaa", sum := "3c58e4f3680a9030ed473eb5d806b47e6beb9d4a920b77cab8abc02a2250be55", func := "loop.example/g00659/laws.FnExactSeenRead", spec := "fnExactSeenRead", apart := false, narrowed := true }
def FnExactSeenReadUptoSaid : Prop := fnExactSeenReadUptoRow.holds Try.pinned (OpenSpec.upto fnExactSeenReadSpec)

end Rows
end Go.Proofs.Ytnlkejneinnbjaa
