/-
  DERIVED. GIVEN WITH THE SEED: THE CARDS: each row of YtiaoifodaoifjaaDoorRows.lean that lists a variable, with what it lists TIED to the program's text (the seventh form; the later family's looks); each row that meets fmt, with fmt's text TOLD by the authors' own Lean function (tested against real Go, not proved from fmt's source: count such statements apart). THE CARD IS WHAT COUNTS. Prove the row's statement (the work); the ties are given (YtiaoifodaoifjaaDoorTie.lean); close each card by the builder's one call (the guide's Derived/Test/ToyasCard.lean, 'card_holds'). Laid BY PROGRAM, IN A SANDBOX (cutbox-door.mjs). By AI agents, Wed Nov 11 2026. No macro, syntax, notation, axiom, sorry.
-/
import Derived.Test.YtiaoifodaoifjaaDoorRows
import GoSem.ClaimSeven
namespace Go.Proofs.YtiaoifodaoifjaaDoor
namespace Rows

/-- THE TIED CARD OF 'laws.FnPass'. -/
def fnPassCard : Claim7 := { stood := { row := fnPassRow, standIns := [], harness := (true, "b6b2d6a0c1ce6bba13129a90851921f762bdd5f6a09dba195b63e80dc15026af"), looks := true }, kinds := [], alts := [], laidByText := true, laidKinds := [.handle], laidTests := true, laidLooks := .later }
def FnPassCardSaid : Prop := Claim7.holds Tryd.pinned (.plain (OpenSpec.ofChange fnPassSpec)) fnPassCard

/-- THE TIED CARD OF 'laws.FnExactPassRead'. -/
def fnExactPassReadCard : Claim7 := { stood := { row := fnExactPassReadRow, standIns := [], harness := (true, "b6b2d6a0c1ce6bba13129a90851921f762bdd5f6a09dba195b63e80dc15026af"), looks := true }, kinds := [], alts := [], laidByText := true, laidKinds := [.handle], laidTests := true, laidLooks := .later }
def FnExactPassReadCardSaid : Prop := Claim7.holds Tryd.pinned (.plain (OpenSpec.ofChange fnExactPassReadSpec)) fnExactPassReadCard

/-- THE SECOND FORM's CARD OF 'laws.FnPass'. -/
def fnPassUptoCard : Claim7 := { stood := { row := fnPassUptoRow, standIns := [], harness := (true, "b6b2d6a0c1ce6bba13129a90851921f762bdd5f6a09dba195b63e80dc15026af"), looks := true }, kinds := [], alts := [], laidByText := true, laidKinds := [.handle], laidTests := true, laidLooks := .later }
def FnPassUptoCardSaid : Prop := Claim7.holds Tryd.pinned (.plain (OpenSpec.upto fnPassSpec)) fnPassUptoCard

/-- THE SECOND FORM's CARD OF 'laws.FnExactPassRead'. -/
def fnExactPassReadUptoCard : Claim7 := { stood := { row := fnExactPassReadUptoRow, standIns := [], harness := (true, "b6b2d6a0c1ce6bba13129a90851921f762bdd5f6a09dba195b63e80dc15026af"), looks := true }, kinds := [], alts := [], laidByText := true, laidKinds := [.handle], laidTests := true, laidLooks := .later }
def FnExactPassReadUptoCardSaid : Prop := Claim7.holds Tryd.pinned (.plain (OpenSpec.upto fnExactPassReadSpec)) fnExactPassReadUptoCard
end Rows
end Go.Proofs.YtiaoifodaoifjaaDoor
