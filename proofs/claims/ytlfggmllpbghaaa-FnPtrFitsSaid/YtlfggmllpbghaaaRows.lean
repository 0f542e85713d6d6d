/-
  No cell of these rows narrows 'for every input' (looked for: loops, veiled, ifaces, maps, wideKeys, modest, calm, conditions, laid).
  DERIVED. THE GIVEN ROWS OF THIS SEAT. 6 by the template 'for every input the law returns true; each argument reads behind the call as it read before'; 0 by the template 'total and deterministic' (their statements: YtlfggmllpbghaaaTotals.lean).
  GIVEN WITH THE SEED: the statements are not yours to turn. If you find one false, say at which input.
  Laid BY PROGRAM, IN A SANDBOX (cutbox-rows.mjs): the forced cells as the released guide's own fill.sh prints them over the translation b8cb3add5922531c… (all of the seat's roots in one cut). By AI agents, Wed Nov 11 2026. No macro, syntax, notation, axiom, sorry.
-/
import Derived.Test.YtlfggmllpbghaaaChecked
import GoSem.Claim
import GoSem.ClaimJoined
import GoSem.ClaimMapViews
import Derived.JoinedTies
import Derived.KernelRfl
namespace Go.Proofs.Ytlfggmllpbghaaa
/- THE CELL 'sum', in the pinned program and in every row, IS THE sha256 OF THE DUMP (.gsa) THAT YtlfggmllpbghaaaProg.lean LOADS. Nothing in Lean hashes anything: it is a label: what it is worth is what the hold of that sum in a sandbox is worth. -/
noncomputable def Try.pinned : Pinned := { name := "ytlfggmllpbghaaa", sum := "b8cb3add5922531c5da3bd66fca1cff814853ffa68cb22319f6950d7472889dc", checked := Try.checked }
namespace Rows
def none {H : Type} : Left H := { results := [], args := [] }

/-- 'laws.FnPtrOf': WHATEVER THE INPUT: true; the input reads as it did. -/
def fnPtrOfSpec : ChangeSpec := { name := "fnPtrOf", fn := fun _ => fun
  | [d] => { results := [.lit (.bool true)], args := [d] }
  | _ => none }
def fnPtrOfRow : OpenClaim := { program := "ytlfggmllpbghaaa", sum := "b8cb3add5922531c5da3bd66fca1cff814853ffa68cb22319f6950d7472889dc", func := "loop.example/poolfiles/laws.FnPtrOf", spec := "fnPtrOf", apart := false }
def FnPtrOfSaid : Prop := fnPtrOfRow.holds Try.pinned (OpenSpec.ofChange fnPtrOfSpec)

/-- ITS FALSE NEIGHBOUR: 'it returns false'. Refute it at one input. -/
def fnPtrOfWrong : ChangeSpec := { name := "fnPtrOf", fn := fun _ => fun
  | [d] => { results := [.lit (.bool false)], args := [d] }
  | _ => none }
def FnPtrOfWrongFalsely : Prop := fnPtrOfRow.holds Try.pinned (OpenSpec.ofChange fnPtrOfWrong)

/-- 'laws.FnPtrFits': WHATEVER THE INPUT: true; the input reads as it did. -/
def fnPtrFitsSpec : ChangeSpec := { name := "fnPtrFits", fn := fun _ => fun
  | [d] => { results := [.lit (.bool true)], args := [d] }
  | _ => none }
def fnPtrFitsRow : OpenClaim := { program := "ytlfggmllpbghaaa", sum := "b8cb3add5922531c5da3bd66fca1cff814853ffa68cb22319f6950d7472889dc", func := "loop.example/poolfiles/laws.FnPtrFits", spec := "fnPtrFits", apart := false }
def FnPtrFitsSaid : Prop := fnPtrFitsRow.holds Try.pinned (OpenSpec.ofChange fnPtrFitsSpec)

/-- ITS FALSE NEIGHBOUR: 'it returns false'. Refute it at one input. -/
def fnPtrFitsWrong : ChangeSpec := { name := "fnPtrFits", fn := fun _ => fun
  | [d] => { results := [.lit (.bool false)], args := [d] }
  | _ => none }
def FnPtrFitsWrongFalsely : Prop := fnPtrFitsRow.holds Try.pinned (OpenSpec.ofChange fnPtrFitsWrong)

/-- 'laws.FnExactPtrOk': WHATEVER THE INPUT: true; the input reads as it did. -/
def fnExactPtrOkSpec : ChangeSpec := { name := "fnExactPtrOk", fn := fun _ => fun
  | [d] => { results := [.lit (.bool true)], args := [d] }
  | _ => none }
def fnExactPtrOkRow : OpenClaim := { program := "ytlfggmllpbghaaa", sum := "b8cb3add5922531c5da3bd66fca1cff814853ffa68cb22319f6950d7472889dc", func := "loop.example/poolfiles/laws.FnExactPtrOk", spec := "fnExactPtrOk", apart := false }
def FnExactPtrOkSaid : Prop := fnExactPtrOkRow.holds Try.pinned (OpenSpec.ofChange fnExactPtrOkSpec)

/-- ITS FALSE NEIGHBOUR: 'it returns false'. Refute it at one input. -/
def fnExactPtrOkWrong : ChangeSpec := { name := "fnExactPtrOk", fn := fun _ => fun
  | [d] => { results := [.lit (.bool false)], args := [d] }
  | _ => none }
def FnExactPtrOkWrongFalsely : Prop := fnExactPtrOkRow.holds Try.pinned (OpenSpec.ofChange fnExactPtrOkWrong)

/-- 'laws.FnExactPtrHole': WHATEVER THE INPUT: true; the input reads as it did. -/
def fnExactPtrHoleSpec : ChangeSpec := { name := "fnExactPtrHole", fn := fun _ => fun
  | [d] => { results := [.lit (.bool true)], args := [d] }
  | _ => none }
def fnExactPtrHoleRow : OpenClaim := { program := "ytlfggmllpbghaaa", sum := "b8cb3add5922531c5da3bd66fca1cff814853ffa68cb22319f6950d7472889dc", func := "loop.example/poolfiles/laws.FnExactPtrHole", spec := "fnExactPtrHole", apart := false }
def FnExactPtrHoleSaid : Prop := fnExactPtrHoleRow.holds Try.pinned (OpenSpec.ofChange fnExactPtrHoleSpec)

/-- ITS FALSE NEIGHBOUR: 'it returns false'. Refute it at one input. -/
def fnExactPtrHoleWrong : ChangeSpec := { name := "fnExactPtrHole", fn := fun _ => fun
  | [d] => { results := [.lit (.bool false)], args := [d] }
  | _ => none }
def FnExactPtrHoleWrongFalsely : Prop := fnExactPtrHoleRow.holds Try.pinned (OpenSpec.ofChange fnExactPtrHoleWrong)

/-- 'laws.FnExactPtrOf': WHATEVER THE INPUT: true; the input reads as it did. -/
def fnExactPtrOfSpec : ChangeSpec := { name := "fnExactPtrOf", fn := fun _ => fun
  | [d1, d2, d3, d4] => { results := [.lit (.bool true)], args := [d1, d2, d3, d4] }
  | _ => none }
def fnExactPtrOfRow : OpenClaim := { program := "ytlfggmllpbghaaa", sum := "b8cb3add5922531c5da3bd66fca1cff814853ffa68cb22319f6950d7472889dc", func := "loop.example/poolfiles/laws.FnExactPtrOf", spec := "fnExactPtrOf", apart := false }
def FnExactPtrOfSaid : Prop := fnExactPtrOfRow.holds Try.pinned (OpenSpec.ofChange fnExactPtrOfSpec)

/-- ITS FALSE NEIGHBOUR: 'it returns false'. Refute it at one input. -/
def fnExactPtrOfWrong : ChangeSpec := { name := "fnExactPtrOf", fn := fun _ => fun
  | [d1, d2, d3, d4] => { results := [.lit (.bool false)], args := [d1, d2, d3, d4] }
  | _ => none }
def FnExactPtrOfWrongFalsely : Prop := fnExactPtrOfRow.holds Try.pinned (OpenSpec.ofChange fnExactPtrOfWrong)

/-- 'laws.FnExactPtrFits': WHATEVER THE INPUT: true; the input reads as it did. -/
def fnExactPtrFitsSpec : ChangeSpec := { name := "fnExactPtrFits", fn := fun _ => fun
  | [d1, d2] => { results := [.lit (.bool true)], args := [d1, d2] }
  | _ => none }
def fnExactPtrFitsRow : OpenClaim := { program := "ytlfggmllpbghaaa", sum := "b8cb3add5922531c5da3bd66fca1cff814853ffa68cb22319f6950d7472889dc", func := "loop.example/poolfiles/laws.FnExactPtrFits", spec := "fnExactPtrFits", apart := false }
def FnExactPtrFitsSaid : Prop := fnExactPtrFitsRow.holds Try.pinned (OpenSpec.ofChange fnExactPtrFitsSpec)

/-- ITS FALSE NEIGHBOUR: 'it returns false'. Refute it at one input. -/
def fnExactPtrFitsWrong : ChangeSpec := { name := "fnExactPtrFits", fn := fun _ => fun
  | [d1, d2] => { results := [.lit (.bool false)], args := [d1, d2] }
  | _ => none }
def FnExactPtrFitsWrongFalsely : Prop := fnExactPtrFitsRow.holds Try.pinned (OpenSpec.ofChange fnExactPtrFitsWrong)

/- THE SECOND FORM. 'bulk': how many values and letters a reading holds, each counted each time it is reached (what is shared counts as often as it is met; a slice's spare places count too). A statement '..UptoSaid' is the law's where the arguments, and the package variables that the reading takes, are together of bulk at most 1048576: NARROWER than '..Said'. Prove '..Said' where nothing that the law and all that it calls make is longer than what came in: it says more and counts as full. Else prove '..UptoSaid'. A law counts once. -/
mutual
def uptoBulk {H : Type} : DataW H → Nat
  | .lit (.string bytes) => bytes.length + 1
  | .lit _ => 1
  | .nil => 1
  | .ptr d => uptoBulk d + 1
  | .slice elems spare => uptoBulkAll elems + uptoBulkAll spare + 1
  | .agg parts => uptoBulkAll parts + 1
  | .iface _ d => uptoBulk d + 1
  | .map entries => uptoBulkEntries entries + 1
  | .held _ => 1
def uptoBulkAll {H : Type} : List (DataW H) → Nat
  | [] => 0
  | d :: r => uptoBulk d + uptoBulkAll r
def uptoBulkEntries {H : Type} : List (Lit × DataW H) → Nat
  | [] => 0
  | x :: r => uptoBulkEntry x + uptoBulkEntries r
def uptoBulkEntry {H : Type} : Lit × DataW H → Nat
  | (.string bytes, d) => bytes.length + uptoBulk d + 1
  | (_, d) => uptoBulk d + 1
 end
def uptoSmall : (H : Type) → List (DataW H) → Bool := fun _ ds => decide (uptoBulkAll ds ≤ 1048576)
def OpenSpec.upto (s : _root_.Go.ChangeSpec) : _root_.Go.OpenSpec := { _root_.Go.OpenSpec.ofChange s with cond := some uptoSmall }

/-- 'laws.FnPtrOf', WHERE WHAT IT READS IS OF BULK AT MOST 1048576: true; the input reads as it did. -/
def fnPtrOfUptoRow : OpenClaim := { program := "ytlfggmllpbghaaa", sum := "b8cb3add5922531c5da3bd66fca1cff814853ffa68cb22319f6950d7472889dc", func := "loop.example/poolfiles/laws.FnPtrOf", spec := "fnPtrOf", apart := false, narrowed := true }
def FnPtrOfUptoSaid : Prop := fnPtrOfUptoRow.holds Try.pinned (OpenSpec.upto fnPtrOfSpec)

/-- 'laws.FnPtrFits', WHERE WHAT IT READS IS OF BULK AT MOST 1048576: true; the input reads as it did. -/
def fnPtrFitsUptoRow : OpenClaim := { program := "ytlfggmllpbghaaa", sum := "b8cb3add5922531c5da3bd66fca1cff814853ffa68cb22319f6950d7472889dc", func := "loop.example/poolfiles/laws.FnPtrFits", spec := "fnPtrFits", apart := false, narrowed := true }
def FnPtrFitsUptoSaid : Prop := fnPtrFitsUptoRow.holds Try.pinned (OpenSpec.upto fnPtrFitsSpec)

/-- 'laws.FnExactPtrOk', WHERE WHAT IT READS IS OF BULK AT MOST 1048576: true; the input reads as it did. -/
def fnExactPtrOkUptoRow : OpenClaim := { program := "ytlfggmllpbghaaa", sum := "b8cb3add5922531c5da3bd66fca1cff814853ffa68cb22319f6950d7472889dc", func := "loop.example/poolfiles/laws.FnExactPtrOk", spec := "fnExactPtrOk", apart := false, narrowed := true }
def FnExactPtrOkUptoSaid : Prop := fnExactPtrOkUptoRow.holds Try.pinned (OpenSpec.upto fnExactPtrOkSpec)

/-- 'laws.FnExactPtrHole', WHERE WHAT IT READS IS OF BULK AT MOST 1048576: true; the input reads as it did. -/
def fnExactPtrHoleUptoRow : OpenClaim := { program := "ytlfggmllpbghaaa", sum := "b8cb3add5922531c5da3bd66fca1cff814853ffa68cb22319f6950d7472889dc", func := "loop.example/poolfiles/laws.FnExactPtrHole", spec := "fnExactPtrHole", apart := false, narrowed := true }
def FnExactPtrHoleUptoSaid : Prop := fnExactPtrHoleUptoRow.holds Try.pinned (OpenSpec.upto fnExactPtrHoleSpec)

/-- 'laws.FnExactPtrOf', WHERE WHAT IT READS IS OF BULK AT MOST 1048576: true; the input reads as it did. -/
def fnExactPtrOfUptoRow : OpenClaim := { program := "ytlfggmllpbghaaa", sum := "b8cb3add5922531c5da3bd66fca1cff814853ffa68cb22319f6950d7472889dc", func := "loop.example/poolfiles/laws.FnExactPtrOf", spec := "fnExactPtrOf", apart := false, narrowed := true }
def FnExactPtrOfUptoSaid : Prop := fnExactPtrOfUptoRow.holds Try.pinned (OpenSpec.upto fnExactPtrOfSpec)

/-- 'laws.FnExactPtrFits', WHERE WHAT IT READS IS OF BULK AT MOST 1048576: true; the input reads as it did. -/
def fnExactPtrFitsUptoRow : OpenClaim := { program := "ytlfggmllpbghaaa", sum := "b8cb3add5922531c5da3bd66fca1cff814853ffa68cb22319f6950d7472889dc", func := "loop.example/poolfiles/laws.FnExactPtrFits", spec := "fnExactPtrFits", apart := false, narrowed := true }
def FnExactPtrFitsUptoSaid : Prop := fnExactPtrFitsUptoRow.holds Try.pinned (OpenSpec.upto fnExactPtrFitsSpec)

end Rows
end Go.Proofs.Ytlfggmllpbghaaa
