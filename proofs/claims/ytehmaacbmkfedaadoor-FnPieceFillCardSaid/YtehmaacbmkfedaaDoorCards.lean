/-
  DERIVED. GIVEN WITH THE SEED: THE CARDS: each row of YtehmaacbmkfedaaDoorRows.lean that lists a variable, with what it lists TIED to the program's text (the seventh form; the later family's looks); each row that meets fmt, with fmt's text TOLD by the authors' own Lean function (tested against real Go, not proved from fmt's source: count such statements apart). THE CARD IS WHAT COUNTS. Prove the row's statement (the work); the ties are given (YtehmaacbmkfedaaDoorTie.lean); close each card by the builder's one call (the guide's Derived/Test/ToyasCard.lean, 'card_holds'). Laid BY PROGRAM, IN A SANDBOX (cutbox-door.mjs). By AI agents, Wed Nov 11 2026. No macro, syntax, notation, axiom, sorry.
-/
import Derived.Test.YtehmaacbmkfedaaDoorRows
import GoSem.ClaimSeven
namespace Go.Proofs.YtehmaacbmkfedaaDoor
namespace Rows

/-- THE TIED CARD OF 'laws.FnExactNodePut'. -/
def fnExactNodePutCard : Claim7 := { stood := { row := fnExactNodePutRow, standIns := [], harness := (true, "3a3861ee8ea7a5785cacbd47e055f2b02d33ba5b99277c231f65ea5dc2915696"), looks := true }, kinds := [], alts := [], laidByText := true, laidKinds := [.data, .data, .data], laidTests := true, laidLooks := .later }
def FnExactNodePutCardSaid : Prop := Claim7.holds Tryd.pinned (.plain (OpenSpec.ofChange fnExactNodePutSpec)) fnExactNodePutCard

/-- THE TIED CARD OF 'laws.FnExactNodeGet'. -/
def fnExactNodeGetCard : Claim7 := { stood := { row := fnExactNodeGetRow, standIns := [], harness := (true, "3a3861ee8ea7a5785cacbd47e055f2b02d33ba5b99277c231f65ea5dc2915696"), looks := true }, kinds := [], alts := [], laidByText := true, laidKinds := [.data, .data, .data, .data, .sentinel, .sentinel, .pinned], laidTests := true, laidLooks := .later }
def FnExactNodeGetCardSaid : Prop := Claim7.holds Tryd.pinned (.plain (OpenSpec.ofChange fnExactNodeGetSpec)) fnExactNodeGetCard

/-- THE TIED CARD OF 'laws.FnExactPieceCut'. -/
def fnExactPieceCutCard : Claim7 := { stood := { row := fnExactPieceCutRow, standIns := [], harness := (true, "3a3861ee8ea7a5785cacbd47e055f2b02d33ba5b99277c231f65ea5dc2915696"), looks := true }, kinds := [], alts := [], laidByText := true, laidKinds := [.data, .pinned], laidTests := true, laidLooks := .later }
def FnExactPieceCutCardSaid : Prop := Claim7.holds Tryd.pinned (.plain (OpenSpec.ofChange fnExactPieceCutSpec)) fnExactPieceCutCard

/-- THE TIED CARD OF 'laws.FnPieceCut'. -/
def fnPieceCutCard : Claim7 := { stood := { row := fnPieceCutRow, standIns := [], harness := (true, "3a3861ee8ea7a5785cacbd47e055f2b02d33ba5b99277c231f65ea5dc2915696"), looks := true }, kinds := [], alts := [], laidByText := true, laidKinds := [.data, .pinned], laidTests := true, laidLooks := .later }
def FnPieceCutCardSaid : Prop := Claim7.holds Tryd.pinned (.plain (OpenSpec.ofChange fnPieceCutSpec)) fnPieceCutCard

/-- THE TIED CARD OF 'laws.FnPieceFill'. -/
def fnPieceFillCard : Claim7 := { stood := { row := fnPieceFillRow, standIns := [], harness := (true, "3a3861ee8ea7a5785cacbd47e055f2b02d33ba5b99277c231f65ea5dc2915696"), looks := true }, kinds := [], alts := [], laidByText := true, laidKinds := [.data, .pinned], laidTests := true, laidLooks := .later }
def FnPieceFillCardSaid : Prop := Claim7.holds Tryd.pinned (.plain (OpenSpec.ofChange fnPieceFillSpec)) fnPieceFillCard

/-- THE SECOND FORM's CARD OF 'laws.FnExactNodePut'. -/
def fnExactNodePutUptoCard : Claim7 := { stood := { row := fnExactNodePutUptoRow, standIns := [], harness := (true, "3a3861ee8ea7a5785cacbd47e055f2b02d33ba5b99277c231f65ea5dc2915696"), looks := true }, kinds := [], alts := [], laidByText := true, laidKinds := [.data, .data, .data], laidTests := true, laidLooks := .later }
def FnExactNodePutUptoCardSaid : Prop := Claim7.holds Tryd.pinned (.plain (OpenSpec.upto fnExactNodePutSpec)) fnExactNodePutUptoCard

/-- THE SECOND FORM's CARD OF 'laws.FnExactNodeGet'. -/
def fnExactNodeGetUptoCard : Claim7 := { stood := { row := fnExactNodeGetUptoRow, standIns := [], harness := (true, "3a3861ee8ea7a5785cacbd47e055f2b02d33ba5b99277c231f65ea5dc2915696"), looks := true }, kinds := [], alts := [], laidByText := true, laidKinds := [.data, .data, .data, .data, .sentinel, .sentinel, .pinned], laidTests := true, laidLooks := .later }
def FnExactNodeGetUptoCardSaid : Prop := Claim7.holds Tryd.pinned (.plain (OpenSpec.upto fnExactNodeGetSpec)) fnExactNodeGetUptoCard

/-- THE SECOND FORM's CARD OF 'laws.FnExactPieceCut'. -/
def fnExactPieceCutUptoCard : Claim7 := { stood := { row := fnExactPieceCutUptoRow, standIns := [], harness := (true, "3a3861ee8ea7a5785cacbd47e055f2b02d33ba5b99277c231f65ea5dc2915696"), looks := true }, kinds := [], alts := [], laidByText := true, laidKinds := [.data, .pinned], laidTests := true, laidLooks := .later }
def FnExactPieceCutUptoCardSaid : Prop := Claim7.holds Tryd.pinned (.plain (OpenSpec.upto fnExactPieceCutSpec)) fnExactPieceCutUptoCard

/-- THE SECOND FORM's CARD OF 'laws.FnPieceCut'. -/
def fnPieceCutUptoCard : Claim7 := { stood := { row := fnPieceCutUptoRow, standIns := [], harness := (true, "3a3861ee8ea7a5785cacbd47e055f2b02d33ba5b99277c231f65ea5dc2915696"), looks := true }, kinds := [], alts := [], laidByText := true, laidKinds := [.data, .pinned], laidTests := true, laidLooks := .later }
def FnPieceCutUptoCardSaid : Prop := Claim7.holds Tryd.pinned (.plain (OpenSpec.upto fnPieceCutSpec)) fnPieceCutUptoCard

/-- THE SECOND FORM's CARD OF 'laws.FnPieceFill'. -/
def fnPieceFillUptoCard : Claim7 := { stood := { row := fnPieceFillUptoRow, standIns := [], harness := (true, "3a3861ee8ea7a5785cacbd47e055f2b02d33ba5b99277c231f65ea5dc2915696"), looks := true }, kinds := [], alts := [], laidByText := true, laidKinds := [.data, .pinned], laidTests := true, laidLooks := .later }
def FnPieceFillUptoCardSaid : Prop := Claim7.holds Tryd.pinned (.plain (OpenSpec.upto fnPieceFillSpec)) fnPieceFillUptoCard
end Rows
end Go.Proofs.YtehmaacbmkfedaaDoor
