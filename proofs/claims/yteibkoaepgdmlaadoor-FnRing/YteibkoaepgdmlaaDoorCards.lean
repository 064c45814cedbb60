/-
  DERIVED. GIVEN WITH THE SEED: THE CARDS: each row of YteibkoaepgdmlaaDoorRows.lean that lists a variable, with what it lists TIED to the program's text (the seventh form; the later family's looks); each row that meets fmt, with fmt's text TOLD by the authors' own Lean function (tested against real Go, not proved from fmt's source: count such statements apart). THE CARD IS WHAT COUNTS. Prove the row's statement (the work); the ties are given (YteibkoaepgdmlaaDoorTie.lean); close each card by the builder's one call (the guide's Derived/Test/ToyasCard.lean, 'card_holds'). Laid BY PROGRAM, IN A SANDBOX (cutbox-door.mjs). By AI agents, Wed Nov 11 2026. No macro, syntax, notation, axiom, sorry.
-/
import Derived.Test.YteibkoaepgdmlaaDoorRows
import GoSem.ClaimSeven
namespace Go.Proofs.YteibkoaepgdmlaaDoor
namespace Rows

/-- THE TIED CARD OF 'laws.FnRing'. -/
def fnRingCard : Claim7 := { stood := { row := fnRingRow, standIns := [], harness := (true, "9af004e1e3c6913c2b16d5580bfbf4bff9c14ffeea57d369516c473d52a0cbd7"), looks := false }, kinds := [], alts := [], laidByText := true, laidKinds := [.data, .data, .data], laidTests := true, laidLooks := .later }
def FnRingCardSaid : Prop := Claim7.holds Tryd.pinned (.plain (OpenSpec.ofChange fnRingSpec)) fnRingCard

/-- THE TIED CARD OF 'laws.FnExactRingRight'. -/
def fnExactRingRightCard : Claim7 := { stood := { row := fnExactRingRightRow, standIns := [], harness := (true, "9af004e1e3c6913c2b16d5580bfbf4bff9c14ffeea57d369516c473d52a0cbd7"), looks := false }, kinds := [], alts := [], laidByText := true, laidKinds := [.data, .data, .data], laidTests := true, laidLooks := .later }
def FnExactRingRightCardSaid : Prop := Claim7.holds Tryd.pinned (.plain (OpenSpec.ofChange fnExactRingRightSpec)) fnExactRingRightCard

/-- THE TIED CARD OF 'laws.FnExactRingNew'. -/
def fnExactRingNewCard : Claim7 := { stood := { row := fnExactRingNewRow, standIns := [], harness := (true, "9af004e1e3c6913c2b16d5580bfbf4bff9c14ffeea57d369516c473d52a0cbd7"), looks := false }, kinds := [], alts := [], laidByText := true, laidKinds := [.data, .data, .data], laidTests := true, laidLooks := .later }
def FnExactRingNewCardSaid : Prop := Claim7.holds Tryd.pinned (.plain (OpenSpec.ofChange fnExactRingNewSpec)) fnExactRingNewCard

/-- THE TIED CARD OF 'laws.FnExactOrder'. -/
def fnExactOrderCard : Claim7 := { stood := { row := fnExactOrderRow, standIns := [], harness := (true, "9af004e1e3c6913c2b16d5580bfbf4bff9c14ffeea57d369516c473d52a0cbd7"), looks := false }, kinds := [], alts := [], laidByText := true, laidKinds := [.data, .data, .data], laidTests := true, laidLooks := .later }
def FnExactOrderCardSaid : Prop := Claim7.holds Tryd.pinned (.plain (OpenSpec.ofChange fnExactOrderSpec)) fnExactOrderCard

/-- THE TIED CARD OF 'laws.FnExactOwners'. -/
def fnExactOwnersCard : Claim7 := { stood := { row := fnExactOwnersRow, standIns := [], harness := (true, "9af004e1e3c6913c2b16d5580bfbf4bff9c14ffeea57d369516c473d52a0cbd7"), looks := false }, kinds := [], alts := [], laidByText := true, laidKinds := [.data, .data, .data], laidTests := true, laidLooks := .later }
def FnExactOwnersCardSaid : Prop := Claim7.holds Tryd.pinned (.plain (OpenSpec.ofChange fnExactOwnersSpec)) fnExactOwnersCard

/-- THE TIED CARD OF 'laws.FnExactStandIns'. -/
def fnExactStandInsCard : Claim7 := { stood := { row := fnExactStandInsRow, standIns := [], harness := (true, "9af004e1e3c6913c2b16d5580bfbf4bff9c14ffeea57d369516c473d52a0cbd7"), looks := false }, kinds := [], alts := [], laidByText := true, laidKinds := [.data, .data, .data], laidTests := true, laidLooks := .later }
def FnExactStandInsCardSaid : Prop := Claim7.holds Tryd.pinned (.plain (OpenSpec.ofChange fnExactStandInsSpec)) fnExactStandInsCard

/-- THE SECOND FORM's CARD OF 'laws.FnRing'. -/
def fnRingUptoCard : Claim7 := { stood := { row := fnRingUptoRow, standIns := [], harness := (true, "9af004e1e3c6913c2b16d5580bfbf4bff9c14ffeea57d369516c473d52a0cbd7"), looks := false }, kinds := [], alts := [], laidByText := true, laidKinds := [.data, .data, .data], laidTests := true, laidLooks := .later }
def FnRingUptoCardSaid : Prop := Claim7.holds Tryd.pinned (.plain (OpenSpec.upto fnRingSpec)) fnRingUptoCard

/-- THE SECOND FORM's CARD OF 'laws.FnExactRingRight'. -/
def fnExactRingRightUptoCard : Claim7 := { stood := { row := fnExactRingRightUptoRow, standIns := [], harness := (true, "9af004e1e3c6913c2b16d5580bfbf4bff9c14ffeea57d369516c473d52a0cbd7"), looks := false }, kinds := [], alts := [], laidByText := true, laidKinds := [.data, .data, .data], laidTests := true, laidLooks := .later }
def FnExactRingRightUptoCardSaid : Prop := Claim7.holds Tryd.pinned (.plain (OpenSpec.upto fnExactRingRightSpec)) fnExactRingRightUptoCard

/-- THE SECOND FORM's CARD OF 'laws.FnExactRingNew'. -/
def fnExactRingNewUptoCard : Claim7 := { stood := { row := fnExactRingNewUptoRow, standIns := [], harness := (true, "9af004e1e3c6913c2b16d5580bfbf4bff9c14ffeea57d369516c473d52a0cbd7"), looks := false }, kinds := [], alts := [], laidByText := true, laidKinds := [.data, .data, .data], laidTests := true, laidLooks := .later }
def FnExactRingNewUptoCardSaid : Prop := Claim7.holds Tryd.pinned (.plain (OpenSpec.upto fnExactRingNewSpec)) fnExactRingNewUptoCard

/-- THE SECOND FORM's CARD OF 'laws.FnExactOrder'. -/
def fnExactOrderUptoCard : Claim7 := { stood := { row := fnExactOrderUptoRow, standIns := [], harness := (true, "9af004e1e3c6913c2b16d5580bfbf4bff9c14ffeea57d369516c473d52a0cbd7"), looks := false }, kinds := [], alts := [], laidByText := true, laidKinds := [.data, .data, .data], laidTests := true, laidLooks := .later }
def FnExactOrderUptoCardSaid : Prop := Claim7.holds Tryd.pinned (.plain (OpenSpec.upto fnExactOrderSpec)) fnExactOrderUptoCard

/-- THE SECOND FORM's CARD OF 'laws.FnExactOwners'. -/
def fnExactOwnersUptoCard : Claim7 := { stood := { row := fnExactOwnersUptoRow, standIns := [], harness := (true, "9af004e1e3c6913c2b16d5580bfbf4bff9c14ffeea57d369516c473d52a0cbd7"), looks := false }, kinds := [], alts := [], laidByText := true, laidKinds := [.data, .data, .data], laidTests := true, laidLooks := .later }
def FnExactOwnersUptoCardSaid : Prop := Claim7.holds Tryd.pinned (.plain (OpenSpec.upto fnExactOwnersSpec)) fnExactOwnersUptoCard

/-- THE SECOND FORM's CARD OF 'laws.FnExactStandIns'. -/
def fnExactStandInsUptoCard : Claim7 := { stood := { row := fnExactStandInsUptoRow, standIns := [], harness := (true, "9af004e1e3c6913c2b16d5580bfbf4bff9c14ffeea57d369516c473d52a0cbd7"), looks := false }, kinds := [], alts := [], laidByText := true, laidKinds := [.data, .data, .data], laidTests := true, laidLooks := .later }
def FnExactStandInsUptoCardSaid : Prop := Claim7.holds Tryd.pinned (.plain (OpenSpec.upto fnExactStandInsSpec)) fnExactStandInsUptoCard
end Rows
end Go.Proofs.YteibkoaepgdmlaaDoor
