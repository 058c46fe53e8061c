/-
  DERIVED. GIVEN WITH THE SEED: THE CARDS: each row of YtlihfnfigclbmaaDoorRows.lean that lists a variable, with what it lists TIED to the program's text (the seventh form; the later family's looks); each row that meets fmt, with fmt's text TOLD by the authors' own Lean function (tested against real Go, not proved from fmt's source: count such statements apart). THE CARD IS WHAT COUNTS. Prove the row's statement (the work); the ties are given (YtlihfnfigclbmaaDoorTie.lean); close each card by the builder's one call (the guide's Derived/Test/ToyasCard.lean, 'card_holds'). Laid BY PROGRAM, IN A SANDBOX (cutbox-door.mjs). By AI agents, Wed Nov 11 2026. No macro, syntax, notation, axiom, sorry.
-/
import Derived.Test.YtlihfnfigclbmaaDoorRows
import GoSem.ClaimSeven
namespace Go.Proofs.YtlihfnfigclbmaaDoor
namespace Rows

/-- THE TIED CARD OF 'trestlelaw09.EveningFields'. -/
def eveningFieldsCard : Claim7 := { stood := { row := eveningFieldsRow, standIns := [], harness := (true, "0e230950d6d93387784f722970b2569570c5f456be2bd9c3dbde41605836450e"), looks := false }, kinds := [], alts := [], laidByText := true, laidKinds := [.data, .data, .data], laidTests := true, laidLooks := .later }
def EveningFieldsCardSaid : Prop := Claim7.holds Tryd.pinned (.plain (OpenSpec.ofChange eveningFieldsSpec)) eveningFieldsCard

/-- THE TIED CARD OF 'trestlelaw09.EveningAxioms'. -/
def eveningAxiomsCard : Claim7 := { stood := { row := eveningAxiomsRow, standIns := [], harness := (true, "0e230950d6d93387784f722970b2569570c5f456be2bd9c3dbde41605836450e"), looks := false }, kinds := [], alts := [], laidByText := true, laidKinds := [.data, .data, .data], laidTests := true, laidLooks := .later }
def EveningAxiomsCardSaid : Prop := Claim7.holds Tryd.pinned (.plain (OpenSpec.ofChange eveningAxiomsSpec)) eveningAxiomsCard

/-- THE TIED CARD OF 'trestlelaw09.EveningBounds'. -/
def eveningBoundsCard : Claim7 := { stood := { row := eveningBoundsRow, standIns := [], harness := (true, "0e230950d6d93387784f722970b2569570c5f456be2bd9c3dbde41605836450e"), looks := false }, kinds := [], alts := [], laidByText := true, laidKinds := [.data, .data, .data], laidTests := true, laidLooks := .later }
def EveningBoundsCardSaid : Prop := Claim7.holds Tryd.pinned (.plain (OpenSpec.ofChange eveningBoundsSpec)) eveningBoundsCard

/-- THE TIED CARD OF 'trestlelaw09.EveningChecks'. -/
def eveningChecksCard : Claim7 := { stood := { row := eveningChecksRow, standIns := [], harness := (true, "0e230950d6d93387784f722970b2569570c5f456be2bd9c3dbde41605836450e"), looks := false }, kinds := [], alts := [], laidByText := true, laidKinds := [.data, .data, .data], laidTests := true, laidLooks := .later }
def EveningChecksCardSaid : Prop := Claim7.holds Tryd.pinned (.plain (OpenSpec.ofChange eveningChecksSpec)) eveningChecksCard

/-- THE TIED CARD OF 'trestlelaw09.EveningFormats'. -/
def eveningFormatsCard : Claim7 := { stood := { row := eveningFormatsRow, standIns := [], harness := (true, "0e230950d6d93387784f722970b2569570c5f456be2bd9c3dbde41605836450e"), looks := false }, kinds := [], alts := [], laidByText := true, laidKinds := [.data, .data, .data], laidTests := true, laidLooks := .later }
def EveningFormatsCardSaid : Prop := Claim7.holds Tryd.pinned (.plain (OpenSpec.ofChange eveningFormatsSpec)) eveningFormatsCard

/-- THE SECOND FORM's CARD OF 'trestlelaw09.EveningFields'. -/
def eveningFieldsUptoCard : Claim7 := { stood := { row := eveningFieldsUptoRow, standIns := [], harness := (true, "0e230950d6d93387784f722970b2569570c5f456be2bd9c3dbde41605836450e"), looks := false }, kinds := [], alts := [], laidByText := true, laidKinds := [.data, .data, .data], laidTests := true, laidLooks := .later }
def EveningFieldsUptoCardSaid : Prop := Claim7.holds Tryd.pinned (.plain (OpenSpec.upto eveningFieldsSpec)) eveningFieldsUptoCard

/-- THE SECOND FORM's CARD OF 'trestlelaw09.EveningAxioms'. -/
def eveningAxiomsUptoCard : Claim7 := { stood := { row := eveningAxiomsUptoRow, standIns := [], harness := (true, "0e230950d6d93387784f722970b2569570c5f456be2bd9c3dbde41605836450e"), looks := false }, kinds := [], alts := [], laidByText := true, laidKinds := [.data, .data, .data], laidTests := true, laidLooks := .later }
def EveningAxiomsUptoCardSaid : Prop := Claim7.holds Tryd.pinned (.plain (OpenSpec.upto eveningAxiomsSpec)) eveningAxiomsUptoCard

/-- THE SECOND FORM's CARD OF 'trestlelaw09.EveningBounds'. -/
def eveningBoundsUptoCard : Claim7 := { stood := { row := eveningBoundsUptoRow, standIns := [], harness := (true, "0e230950d6d93387784f722970b2569570c5f456be2bd9c3dbde41605836450e"), looks := false }, kinds := [], alts := [], laidByText := true, laidKinds := [.data, .data, .data], laidTests := true, laidLooks := .later }
def EveningBoundsUptoCardSaid : Prop := Claim7.holds Tryd.pinned (.plain (OpenSpec.upto eveningBoundsSpec)) eveningBoundsUptoCard

/-- THE SECOND FORM's CARD OF 'trestlelaw09.EveningChecks'. -/
def eveningChecksUptoCard : Claim7 := { stood := { row := eveningChecksUptoRow, standIns := [], harness := (true, "0e230950d6d93387784f722970b2569570c5f456be2bd9c3dbde41605836450e"), looks := false }, kinds := [], alts := [], laidByText := true, laidKinds := [.data, .data, .data], laidTests := true, laidLooks := .later }
def EveningChecksUptoCardSaid : Prop := Claim7.holds Tryd.pinned (.plain (OpenSpec.upto eveningChecksSpec)) eveningChecksUptoCard

/-- THE SECOND FORM's CARD OF 'trestlelaw09.EveningFormats'. -/
def eveningFormatsUptoCard : Claim7 := { stood := { row := eveningFormatsUptoRow, standIns := [], harness := (true, "0e230950d6d93387784f722970b2569570c5f456be2bd9c3dbde41605836450e"), looks := false }, kinds := [], alts := [], laidByText := true, laidKinds := [.data, .data, .data], laidTests := true, laidLooks := .later }
def EveningFormatsUptoCardSaid : Prop := Claim7.holds Tryd.pinned (.plain (OpenSpec.upto eveningFormatsSpec)) eveningFormatsUptoCard
end Rows
end Go.Proofs.YtlihfnfigclbmaaDoor
