/-
  DERIVED. GIVEN WITH THE SEED: THE CARDS: each row of YteabedmomepihaaDoorRows.lean that lists a variable, with what it lists TIED to the program's text (the seventh form; the later family's looks); each row that meets fmt, with fmt's text TOLD by the authors' own Lean function (tested against real Go, not proved from fmt's source: count such statements apart). THE CARD IS WHAT COUNTS. Prove the row's statement (the work); the ties are given (YteabedmomepihaaDoorTie.lean); close each card by the builder's one call (the guide's Derived/Test/ToyasCard.lean, 'card_holds'). Laid BY PROGRAM, IN A SANDBOX (cutbox-door.mjs). By AI agents, Wed Nov 11 2026. No macro, syntax, notation, axiom, sorry.
-/
import Derived.Test.YteabedmomepihaaDoorRows
import GoSem.ClaimSeven
namespace Go.Proofs.YteabedmomepihaaDoor
namespace Rows

/-- THE TIED CARD OF 'trestlelaw09.EveningHosts'. -/
def eveningHostsCard : Claim7 := { stood := { row := eveningHostsRow, standIns := [], harness := (true, "3af06d8e6db1d209998e06e403094e586cac7b2782019c5c35f462469d32642c"), looks := false }, kinds := [], alts := [], laidByText := true, laidKinds := [.data, .data, .data], laidTests := true, laidLooks := .later }
def EveningHostsCardSaid : Prop := Claim7.holds Tryd.pinned (.plain (OpenSpec.ofChange eveningHostsSpec)) eveningHostsCard

/-- THE SECOND FORM's CARD OF 'trestlelaw09.EveningHosts'. -/
def eveningHostsUptoCard : Claim7 := { stood := { row := eveningHostsUptoRow, standIns := [], harness := (true, "3af06d8e6db1d209998e06e403094e586cac7b2782019c5c35f462469d32642c"), looks := false }, kinds := [], alts := [], laidByText := true, laidKinds := [.data, .data, .data], laidTests := true, laidLooks := .later }
def EveningHostsUptoCardSaid : Prop := Claim7.holds Tryd.pinned (.plain (OpenSpec.upto eveningHostsSpec)) eveningHostsUptoCard
end Rows
end Go.Proofs.YteabedmomepihaaDoor
