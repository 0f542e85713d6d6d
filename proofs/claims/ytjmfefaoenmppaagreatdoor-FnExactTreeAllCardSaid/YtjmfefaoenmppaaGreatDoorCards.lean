/-
  DERIVED. GIVEN WITH THE SEED: THE CARDS: each row of YtjmfefaoenmppaaGreatDoorRows.lean that lists a variable, with what it lists TIED to the program's text (the seventh form; the later family's looks); each row that meets fmt, with fmt's text TOLD by the authors' own Lean function (tested against real Go, not proved from fmt's source: count such statements apart). THE CARD IS WHAT COUNTS. Prove the row's statement (the work); the ties are given (YtjmfefaoenmppaaGreatDoorTie.lean); close each card by the builder's one call (the guide's Derived/Test/ToyasCard.lean, 'card_holds'). Laid BY PROGRAM, IN A SANDBOX (cutbox-door.mjs). By AI agents, Wed Nov 11 2026. No macro, syntax, notation, axiom, sorry.
-/
import Derived.Test.YtjmfefaoenmppaaGreatDoorRows
import GoSem.ClaimSeven
namespace Go.Proofs.YtjmfefaoenmppaaGreatDoor
namespace Rows

/-- THE TIED CARD OF 'laws.FnExactTreeOk'. -/
def fnExactTreeOkCard : Claim7 := { stood := { row := fnExactTreeOkRow, standIns := [], harness := (true, "1e4107b41bc80672b2906142ae3b06d01f16dcbd8485c2fc6443a2da95f546fb"), looks := true }, kinds := [], alts := [], laidByText := true, laidKinds := [.data, .data, .data, .data, .sentinel, .sentinel, .pinned], laidTests := true, laidLooks := .later }
def FnExactTreeOkCardSaid : Prop := Claim7.holds Tryz.pinned (.plain (OpenSpec.ofChange fnExactTreeOkSpec)) fnExactTreeOkCard

/-- THE TIED CARD OF 'laws.FnExactTreeLeaves'. -/
def fnExactTreeLeavesCard : Claim7 := { stood := { row := fnExactTreeLeavesRow, standIns := [], harness := (true, "1e4107b41bc80672b2906142ae3b06d01f16dcbd8485c2fc6443a2da95f546fb"), looks := true }, kinds := [], alts := [], laidByText := true, laidKinds := [.data, .data, .data, .data, .sentinel, .sentinel, .pinned], laidTests := true, laidLooks := .later }
def FnExactTreeLeavesCardSaid : Prop := Claim7.holds Tryz.pinned (.plain (OpenSpec.ofChange fnExactTreeLeavesSpec)) fnExactTreeLeavesCard

/-- THE TIED CARD OF 'laws.FnExactTreeGet'. -/
def fnExactTreeGetCard : Claim7 := { stood := { row := fnExactTreeGetRow, standIns := [], harness := (true, "1e4107b41bc80672b2906142ae3b06d01f16dcbd8485c2fc6443a2da95f546fb"), looks := true }, kinds := [], alts := [], laidByText := true, laidKinds := [.data, .data, .data, .data, .sentinel, .sentinel, .pinned], laidTests := true, laidLooks := .later }
def FnExactTreeGetCardSaid : Prop := Claim7.holds Tryz.pinned (.plain (OpenSpec.ofChange fnExactTreeGetSpec)) fnExactTreeGetCard

/-- THE TIED CARD OF 'laws.FnExactTreePut'. -/
def fnExactTreePutCard : Claim7 := { stood := { row := fnExactTreePutRow, standIns := [], harness := (true, "1e4107b41bc80672b2906142ae3b06d01f16dcbd8485c2fc6443a2da95f546fb"), looks := true }, kinds := [], alts := [], laidByText := true, laidKinds := [.data, .data, .data, .data, .sentinel, .sentinel, .pinned], laidTests := true, laidLooks := .later }
def FnExactTreePutCardSaid : Prop := Claim7.holds Tryz.pinned (.plain (OpenSpec.ofChange fnExactTreePutSpec)) fnExactTreePutCard

/-- THE TIED CARD OF 'laws.FnExactTreeCut'. -/
def fnExactTreeCutCard : Claim7 := { stood := { row := fnExactTreeCutRow, standIns := [], harness := (true, "1e4107b41bc80672b2906142ae3b06d01f16dcbd8485c2fc6443a2da95f546fb"), looks := true }, kinds := [], alts := [], laidByText := true, laidKinds := [.data, .data, .data, .data, .sentinel, .sentinel, .pinned], laidTests := true, laidLooks := .later }
def FnExactTreeCutCardSaid : Prop := Claim7.holds Tryz.pinned (.plain (OpenSpec.ofChange fnExactTreeCutSpec)) fnExactTreeCutCard

/-- THE TIED CARD OF 'laws.FnExactTreeAll'. -/
def fnExactTreeAllCard : Claim7 := { stood := { row := fnExactTreeAllRow, standIns := [], harness := (true, "1e4107b41bc80672b2906142ae3b06d01f16dcbd8485c2fc6443a2da95f546fb"), looks := true }, kinds := [], alts := [], laidByText := true, laidKinds := [.data, .data, .data, .data, .sentinel, .sentinel, .pinned], laidTests := true, laidLooks := .later }
def FnExactTreeAllCardSaid : Prop := Claim7.holds Tryz.pinned (.plain (OpenSpec.ofChange fnExactTreeAllSpec)) fnExactTreeAllCard

/-- THE TIED CARD OF 'laws.FnExactTreeDiff'. -/
def fnExactTreeDiffCard : Claim7 := { stood := { row := fnExactTreeDiffRow, standIns := [], harness := (true, "1e4107b41bc80672b2906142ae3b06d01f16dcbd8485c2fc6443a2da95f546fb"), looks := true }, kinds := [], alts := [], laidByText := true, laidKinds := [.data, .data, .data, .data, .sentinel, .sentinel, .pinned], laidTests := true, laidLooks := .later }
def FnExactTreeDiffCardSaid : Prop := Claim7.holds Tryz.pinned (.plain (OpenSpec.ofChange fnExactTreeDiffSpec)) fnExactTreeDiffCard

/-- THE SECOND FORM's CARD OF 'laws.FnExactTreeOk'. -/
def fnExactTreeOkUptoCard : Claim7 := { stood := { row := fnExactTreeOkUptoRow, standIns := [], harness := (true, "1e4107b41bc80672b2906142ae3b06d01f16dcbd8485c2fc6443a2da95f546fb"), looks := true }, kinds := [], alts := [], laidByText := true, laidKinds := [.data, .data, .data, .data, .sentinel, .sentinel, .pinned], laidTests := true, laidLooks := .later }
def FnExactTreeOkUptoCardSaid : Prop := Claim7.holds Tryz.pinned (.plain (OpenSpec.upto fnExactTreeOkSpec)) fnExactTreeOkUptoCard

/-- THE SECOND FORM's CARD OF 'laws.FnExactTreeLeaves'. -/
def fnExactTreeLeavesUptoCard : Claim7 := { stood := { row := fnExactTreeLeavesUptoRow, standIns := [], harness := (true, "1e4107b41bc80672b2906142ae3b06d01f16dcbd8485c2fc6443a2da95f546fb"), looks := true }, kinds := [], alts := [], laidByText := true, laidKinds := [.data, .data, .data, .data, .sentinel, .sentinel, .pinned], laidTests := true, laidLooks := .later }
def FnExactTreeLeavesUptoCardSaid : Prop := Claim7.holds Tryz.pinned (.plain (OpenSpec.upto fnExactTreeLeavesSpec)) fnExactTreeLeavesUptoCard

/-- THE SECOND FORM's CARD OF 'laws.FnExactTreeGet'. -/
def fnExactTreeGetUptoCard : Claim7 := { stood := { row := fnExactTreeGetUptoRow, standIns := [], harness := (true, "1e4107b41bc80672b2906142ae3b06d01f16dcbd8485c2fc6443a2da95f546fb"), looks := true }, kinds := [], alts := [], laidByText := true, laidKinds := [.data, .data, .data, .data, .sentinel, .sentinel, .pinned], laidTests := true, laidLooks := .later }
def FnExactTreeGetUptoCardSaid : Prop := Claim7.holds Tryz.pinned (.plain (OpenSpec.upto fnExactTreeGetSpec)) fnExactTreeGetUptoCard

/-- THE SECOND FORM's CARD OF 'laws.FnExactTreePut'. -/
def fnExactTreePutUptoCard : Claim7 := { stood := { row := fnExactTreePutUptoRow, standIns := [], harness := (true, "1e4107b41bc80672b2906142ae3b06d01f16dcbd8485c2fc6443a2da95f546fb"), looks := true }, kinds := [], alts := [], laidByText := true, laidKinds := [.data, .data, .data, .data, .sentinel, .sentinel, .pinned], laidTests := true, laidLooks := .later }
def FnExactTreePutUptoCardSaid : Prop := Claim7.holds Tryz.pinned (.plain (OpenSpec.upto fnExactTreePutSpec)) fnExactTreePutUptoCard

/-- THE SECOND FORM's CARD OF 'laws.FnExactTreeCut'. -/
def fnExactTreeCutUptoCard : Claim7 := { stood := { row := fnExactTreeCutUptoRow, standIns := [], harness := (true, "1e4107b41bc80672b2906142ae3b06d01f16dcbd8485c2fc6443a2da95f546fb"), looks := true }, kinds := [], alts := [], laidByText := true, laidKinds := [.data, .data, .data, .data, .sentinel, .sentinel, .pinned], laidTests := true, laidLooks := .later }
def FnExactTreeCutUptoCardSaid : Prop := Claim7.holds Tryz.pinned (.plain (OpenSpec.upto fnExactTreeCutSpec)) fnExactTreeCutUptoCard

/-- THE SECOND FORM's CARD OF 'laws.FnExactTreeAll'. -/
def fnExactTreeAllUptoCard : Claim7 := { stood := { row := fnExactTreeAllUptoRow, standIns := [], harness := (true, "1e4107b41bc80672b2906142ae3b06d01f16dcbd8485c2fc6443a2da95f546fb"), looks := true }, kinds := [], alts := [], laidByText := true, laidKinds := [.data, .data, .data, .data, .sentinel, .sentinel, .pinned], laidTests := true, laidLooks := .later }
def FnExactTreeAllUptoCardSaid : Prop := Claim7.holds Tryz.pinned (.plain (OpenSpec.upto fnExactTreeAllSpec)) fnExactTreeAllUptoCard

/-- THE SECOND FORM's CARD OF 'laws.FnExactTreeDiff'. -/
def fnExactTreeDiffUptoCard : Claim7 := { stood := { row := fnExactTreeDiffUptoRow, standIns := [], harness := (true, "1e4107b41bc80672b2906142ae3b06d01f16dcbd8485c2fc6443a2da95f546fb"), looks := true }, kinds := [], alts := [], laidByText := true, laidKinds := [.data, .data, .data, .data, .sentinel, .sentinel, .pinned], laidTests := true, laidLooks := .later }
def FnExactTreeDiffUptoCardSaid : Prop := Claim7.holds Tryz.pinned (.plain (OpenSpec.upto fnExactTreeDiffSpec)) fnExactTreeDiffUptoCard
end Rows
end Go.Proofs.YtjmfefaoenmppaaGreatDoor
