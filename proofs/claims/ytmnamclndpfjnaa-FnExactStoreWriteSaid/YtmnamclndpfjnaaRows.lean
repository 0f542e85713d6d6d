/-
  No cell of these rows narrows 'for every input' (looked for: loops, veiled, ifaces, maps, wideKeys, modest, calm, conditions, laid).
  DERIVED. THE GIVEN ROWS OF THIS SEAT. 8 by the template 'for every input the law returns true; each argument reads behind the call as it read before'; 0 by the template 'total and deterministic' (their statements: YtmnamclndpfjnaaTotals.lean).
  GIVEN WITH THE SEED: the statements are not yours to turn. If you find one false, say at which input.
  Laid BY PROGRAM, IN A SANDBOX (cutbox-rows.mjs): the forced cells as the released guide's own fill.sh prints them over the translation f2dec1fb9fb4a4df… (all of the seat's roots in one cut). By AI agents, Wed Nov 11 2026. No macro, syntax, notation, axiom, sorry.
-/
import Derived.Test.YtmnamclndpfjnaaChecked
import GoSem.Claim
import GoSem.ClaimJoined
import GoSem.ClaimMapViews
import Derived.JoinedTies
import Derived.KernelRfl
namespace Go.Proofs.Ytmnamclndpfjnaa
/- THE CELL 'sum', in the pinned program and in every row, IS THE sha256 OF THE DUMP (.gsa) THAT YtmnamclndpfjnaaProg.lean LOADS. Nothing in Lean hashes anything: it is a label: what it is worth is what the hold of that sum in a sandbox is worth. -/
noncomputable def Try.pinned : Pinned := { name := "ytmnamclndpfjnaa", sum := "f2dec1fb9fb4a4dfd84a12f626618211f09d9d3ee907930faa2651921c8b6f27", checked := Try.checked }
namespace Rows
def none {H : Type} : Left H := { results := [], args := [] }

/-- 'laws.FnExactStoreNew': WHATEVER THE INPUT: true; the input reads as it did. -/
def fnExactStoreNewSpec : ChangeSpec := { name := "fnExactStoreNew", fn := fun _ => fun
  | [d] => { results := [.lit (.bool true)], args := [d] }
  | _ => none }
def fnExactStoreNewRow : OpenClaim := { program := "ytmnamclndpfjnaa", sum := "f2dec1fb9fb4a4dfd84a12f626618211f09d9d3ee907930faa2651921c8b6f27", func := "loop.example/poolfiles/laws.FnExactStoreNew", spec := "fnExactStoreNew", apart := false }
def FnExactStoreNewSaid : Prop := fnExactStoreNewRow.holds Try.pinned (OpenSpec.ofChange fnExactStoreNewSpec)

/-- ITS FALSE NEIGHBOUR: 'it returns false'. Refute it at one input. -/
def fnExactStoreNewWrong : ChangeSpec := { name := "fnExactStoreNew", fn := fun _ => fun
  | [d] => { results := [.lit (.bool false)], args := [d] }
  | _ => none }
def FnExactStoreNewWrongFalsely : Prop := fnExactStoreNewRow.holds Try.pinned (OpenSpec.ofChange fnExactStoreNewWrong)

/-- 'laws.FnExactStoreOk': WHATEVER THE INPUT: true; the input reads as it did. -/
def fnExactStoreOkSpec : ChangeSpec := { name := "fnExactStoreOk", fn := fun _ => fun
  | [d] => { results := [.lit (.bool true)], args := [d] }
  | _ => none }
def fnExactStoreOkRow : OpenClaim := { program := "ytmnamclndpfjnaa", sum := "f2dec1fb9fb4a4dfd84a12f626618211f09d9d3ee907930faa2651921c8b6f27", func := "loop.example/poolfiles/laws.FnExactStoreOk", spec := "fnExactStoreOk", apart := false }
def FnExactStoreOkSaid : Prop := fnExactStoreOkRow.holds Try.pinned (OpenSpec.ofChange fnExactStoreOkSpec)

/-- ITS FALSE NEIGHBOUR: 'it returns false'. Refute it at one input. -/
def fnExactStoreOkWrong : ChangeSpec := { name := "fnExactStoreOk", fn := fun _ => fun
  | [d] => { results := [.lit (.bool false)], args := [d] }
  | _ => none }
def FnExactStoreOkWrongFalsely : Prop := fnExactStoreOkRow.holds Try.pinned (OpenSpec.ofChange fnExactStoreOkWrong)

/-- 'laws.FnExactStoreRead': WHATEVER THE INPUT: true; the input reads as it did. -/
def fnExactStoreReadSpec : ChangeSpec := { name := "fnExactStoreRead", fn := fun _ => fun
  | [d1, d2] => { results := [.lit (.bool true)], args := [d1, d2] }
  | _ => none }
def fnExactStoreReadRow : OpenClaim := { program := "ytmnamclndpfjnaa", sum := "f2dec1fb9fb4a4dfd84a12f626618211f09d9d3ee907930faa2651921c8b6f27", func := "loop.example/poolfiles/laws.FnExactStoreRead", spec := "fnExactStoreRead", apart := false }
def FnExactStoreReadSaid : Prop := fnExactStoreReadRow.holds Try.pinned (OpenSpec.ofChange fnExactStoreReadSpec)

/-- ITS FALSE NEIGHBOUR: 'it returns false'. Refute it at one input. -/
def fnExactStoreReadWrong : ChangeSpec := { name := "fnExactStoreRead", fn := fun _ => fun
  | [d1, d2] => { results := [.lit (.bool false)], args := [d1, d2] }
  | _ => none }
def FnExactStoreReadWrongFalsely : Prop := fnExactStoreReadRow.holds Try.pinned (OpenSpec.ofChange fnExactStoreReadWrong)

/-- 'laws.FnExactStoreWrite': WHATEVER THE INPUT: true; the input reads as it did. -/
def fnExactStoreWriteSpec : ChangeSpec := { name := "fnExactStoreWrite", fn := fun _ => fun
  | [d1, d2, d3] => { results := [.lit (.bool true)], args := [d1, d2, d3] }
  | _ => none }
def fnExactStoreWriteRow : OpenClaim := { program := "ytmnamclndpfjnaa", sum := "f2dec1fb9fb4a4dfd84a12f626618211f09d9d3ee907930faa2651921c8b6f27", func := "loop.example/poolfiles/laws.FnExactStoreWrite", spec := "fnExactStoreWrite", apart := false }
def FnExactStoreWriteSaid : Prop := fnExactStoreWriteRow.holds Try.pinned (OpenSpec.ofChange fnExactStoreWriteSpec)

/-- ITS FALSE NEIGHBOUR: 'it returns false'. Refute it at one input. -/
def fnExactStoreWriteWrong : ChangeSpec := { name := "fnExactStoreWrite", fn := fun _ => fun
  | [d1, d2, d3] => { results := [.lit (.bool false)], args := [d1, d2, d3] }
  | _ => none }
def FnExactStoreWriteWrongFalsely : Prop := fnExactStoreWriteRow.holds Try.pinned (OpenSpec.ofChange fnExactStoreWriteWrong)

/-- 'laws.FnExactStoreFree': WHATEVER THE INPUT: true; the input reads as it did. -/
def fnExactStoreFreeSpec : ChangeSpec := { name := "fnExactStoreFree", fn := fun _ => fun
  | [d1, d2] => { results := [.lit (.bool true)], args := [d1, d2] }
  | _ => none }
def fnExactStoreFreeRow : OpenClaim := { program := "ytmnamclndpfjnaa", sum := "f2dec1fb9fb4a4dfd84a12f626618211f09d9d3ee907930faa2651921c8b6f27", func := "loop.example/poolfiles/laws.FnExactStoreFree", spec := "fnExactStoreFree", apart := false }
def FnExactStoreFreeSaid : Prop := fnExactStoreFreeRow.holds Try.pinned (OpenSpec.ofChange fnExactStoreFreeSpec)

/-- ITS FALSE NEIGHBOUR: 'it returns false'. Refute it at one input. -/
def fnExactStoreFreeWrong : ChangeSpec := { name := "fnExactStoreFree", fn := fun _ => fun
  | [d1, d2] => { results := [.lit (.bool false)], args := [d1, d2] }
  | _ => none }
def FnExactStoreFreeWrongFalsely : Prop := fnExactStoreFreeRow.holds Try.pinned (OpenSpec.ofChange fnExactStoreFreeWrong)

/-- 'laws.FnExactStoreNext': WHATEVER THE INPUT: true; the input reads as it did. -/
def fnExactStoreNextSpec : ChangeSpec := { name := "fnExactStoreNext", fn := fun _ => fun
  | [d] => { results := [.lit (.bool true)], args := [d] }
  | _ => none }
def fnExactStoreNextRow : OpenClaim := { program := "ytmnamclndpfjnaa", sum := "f2dec1fb9fb4a4dfd84a12f626618211f09d9d3ee907930faa2651921c8b6f27", func := "loop.example/poolfiles/laws.FnExactStoreNext", spec := "fnExactStoreNext", apart := false }
def FnExactStoreNextSaid : Prop := fnExactStoreNextRow.holds Try.pinned (OpenSpec.ofChange fnExactStoreNextSpec)

/-- ITS FALSE NEIGHBOUR: 'it returns false'. Refute it at one input. -/
def fnExactStoreNextWrong : ChangeSpec := { name := "fnExactStoreNext", fn := fun _ => fun
  | [d] => { results := [.lit (.bool false)], args := [d] }
  | _ => none }
def FnExactStoreNextWrongFalsely : Prop := fnExactStoreNextRow.holds Try.pinned (OpenSpec.ofChange fnExactStoreNextWrong)

/-- 'laws.FnExactStoreRoom': WHATEVER THE INPUT: true; the input reads as it did. -/
def fnExactStoreRoomSpec : ChangeSpec := { name := "fnExactStoreRoom", fn := fun _ => fun
  | [d] => { results := [.lit (.bool true)], args := [d] }
  | _ => none }
def fnExactStoreRoomRow : OpenClaim := { program := "ytmnamclndpfjnaa", sum := "f2dec1fb9fb4a4dfd84a12f626618211f09d9d3ee907930faa2651921c8b6f27", func := "loop.example/poolfiles/laws.FnExactStoreRoom", spec := "fnExactStoreRoom", apart := false }
def FnExactStoreRoomSaid : Prop := fnExactStoreRoomRow.holds Try.pinned (OpenSpec.ofChange fnExactStoreRoomSpec)

/-- ITS FALSE NEIGHBOUR: 'it returns false'. Refute it at one input. -/
def fnExactStoreRoomWrong : ChangeSpec := { name := "fnExactStoreRoom", fn := fun _ => fun
  | [d] => { results := [.lit (.bool false)], args := [d] }
  | _ => none }
def FnExactStoreRoomWrongFalsely : Prop := fnExactStoreRoomRow.holds Try.pinned (OpenSpec.ofChange fnExactStoreRoomWrong)

/-- 'laws.FnStoreNew': WHATEVER THE INPUT: true; the input reads as it did. -/
def fnStoreNewSpec : ChangeSpec := { name := "fnStoreNew", fn := fun _ => fun
  | [d] => { results := [.lit (.bool true)], args := [d] }
  | _ => none }
def fnStoreNewRow : OpenClaim := { program := "ytmnamclndpfjnaa", sum := "f2dec1fb9fb4a4dfd84a12f626618211f09d9d3ee907930faa2651921c8b6f27", func := "loop.example/poolfiles/laws.FnStoreNew", spec := "fnStoreNew", apart := false }
def FnStoreNewSaid : Prop := fnStoreNewRow.holds Try.pinned (OpenSpec.ofChange fnStoreNewSpec)

/-- ITS FALSE NEIGHBOUR: 'it returns false'. Refute it at one input. -/
def fnStoreNewWrong : ChangeSpec := { name := "fnStoreNew", fn := fun _ => fun
  | [d] => { results := [.lit (.bool false)], args := [d] }
  | _ => none }
def FnStoreNewWrongFalsely : Prop := fnStoreNewRow.holds Try.pinned (OpenSpec.ofChange fnStoreNewWrong)

/- THE SECOND FORM. 'bulk': how many values and letters a reading holds, each counted each time it is reached (what is shared counts as often as it is met; a slice's spare places count too). A statement '..UptoSaid' is the law's where the arguments, and the package variables that the reading takes, are together of bulk at most 1048576: NARROWER than '..Said'. Prove '..Said' where nothing that the law and all that it calls make is longer than what came in: it says more and counts as full. Else prove '..UptoSaid'. A law counts once. -/
mutual
def uptoBulk {H : Type} : DataW H → Nat
  | .lit (.string bytes) => bytes.length + 1
  | .lit _ => 1
  | .nil => 1
  | .ptr d => uptoBulk d + 1
  | .slice elems spare => uptoBulkAll elems + uptoBulkAll spare + 1
  | .agg parts => uptoBulkAll parts + 1
  | .iface _ d => uptoBulk d + 1
  | .map entries => uptoBulkEntries entries + 1
  | .held _ => 1
def uptoBulkAll {H : Type} : List (DataW H) → Nat
  | [] => 0
  | d :: r => uptoBulk d + uptoBulkAll r
def uptoBulkEntries {H : Type} : List (Lit × DataW H) → Nat
  | [] => 0
  | x :: r => uptoBulkEntry x + uptoBulkEntries r
def uptoBulkEntry {H : Type} : Lit × DataW H → Nat
  | (.string bytes, d) => bytes.length + uptoBulk d + 1
  | (_, d) => uptoBulk d + 1
 end
def uptoSmall : (H : Type) → List (DataW H) → Bool := fun _ ds => decide (uptoBulkAll ds ≤ 1048576)
def OpenSpec.upto (s : _root_.Go.ChangeSpec) : _root_.Go.OpenSpec := { _root_.Go.OpenSpec.ofChange s with cond := some uptoSmall }

/-- 'laws.FnExactStoreNew', WHERE WHAT IT READS IS OF BULK AT MOST 1048576: true; the input reads as it did. -/
def fnExactStoreNewUptoRow : OpenClaim := { program := "ytmnamclndpfjnaa", sum := "f2dec1fb9fb4a4dfd84a12f626618211f09d9d3ee907930faa2651921c8b6f27", func := "loop.example/poolfiles/laws.FnExactStoreNew", spec := "fnExactStoreNew", apart := false, narrowed := true }
def FnExactStoreNewUptoSaid : Prop := fnExactStoreNewUptoRow.holds Try.pinned (OpenSpec.upto fnExactStoreNewSpec)

/-- 'laws.FnExactStoreOk', WHERE WHAT IT READS IS OF BULK AT MOST 1048576: true; the input reads as it did. -/
def fnExactStoreOkUptoRow : OpenClaim := { program := "ytmnamclndpfjnaa", sum := "f2dec1fb9fb4a4dfd84a12f626618211f09d9d3ee907930faa2651921c8b6f27", func := "loop.example/poolfiles/laws.FnExactStoreOk", spec := "fnExactStoreOk", apart := false, narrowed := true }
def FnExactStoreOkUptoSaid : Prop := fnExactStoreOkUptoRow.holds Try.pinned (OpenSpec.upto fnExactStoreOkSpec)

/-- 'laws.FnExactStoreRead', WHERE WHAT IT READS IS OF BULK AT MOST 1048576: true; the input reads as it did. -/
def fnExactStoreReadUptoRow : OpenClaim := { program := "ytmnamclndpfjnaa", sum := "f2dec1fb9fb4a4dfd84a12f626618211f09d9d3ee907930faa2651921c8b6f27", func := "loop.example/poolfiles/laws.FnExactStoreRead", spec := "fnExactStoreRead", apart := false, narrowed := true }
def FnExactStoreReadUptoSaid : Prop := fnExactStoreReadUptoRow.holds Try.pinned (OpenSpec.upto fnExactStoreReadSpec)

/-- 'laws.FnExactStoreWrite', WHERE WHAT IT READS IS OF BULK AT MOST 1048576: true; the input reads as it did. -/
def fnExactStoreWriteUptoRow : OpenClaim := { program := "ytmnamclndpfjnaa", sum := "f2dec1fb9fb4a4dfd84a12f626618211f09d9d3ee907930faa2651921c8b6f27", func := "loop.example/poolfiles/laws.FnExactStoreWrite", spec := "fnExactStoreWrite", apart := false, narrowed := true }
def FnExactStoreWriteUptoSaid : Prop := fnExactStoreWriteUptoRow.holds Try.pinned (OpenSpec.upto fnExactStoreWriteSpec)

/-- 'laws.FnExactStoreFree', WHERE WHAT IT READS IS OF BULK AT MOST 1048576: true; the input reads as it did. -/
def fnExactStoreFreeUptoRow : OpenClaim := { program := "ytmnamclndpfjnaa", sum := "f2dec1fb9fb4a4dfd84a12f626618211f09d9d3ee907930faa2651921c8b6f27", func := "loop.example/poolfiles/laws.FnExactStoreFree", spec := "fnExactStoreFree", apart := false, narrowed := true }
def FnExactStoreFreeUptoSaid : Prop := fnExactStoreFreeUptoRow.holds Try.pinned (OpenSpec.upto fnExactStoreFreeSpec)

/-- 'laws.FnExactStoreNext', WHERE WHAT IT READS IS OF BULK AT MOST 1048576: true; the input reads as it did. -/
def fnExactStoreNextUptoRow : OpenClaim := { program := "ytmnamclndpfjnaa", sum := "f2dec1fb9fb4a4dfd84a12f626618211f09d9d3ee907930faa2651921c8b6f27", func := "loop.example/poolfiles/laws.FnExactStoreNext", spec := "fnExactStoreNext", apart := false, narrowed := true }
def FnExactStoreNextUptoSaid : Prop := fnExactStoreNextUptoRow.holds Try.pinned (OpenSpec.upto fnExactStoreNextSpec)

/-- 'laws.FnExactStoreRoom', WHERE WHAT IT READS IS OF BULK AT MOST 1048576: true; the input reads as it did. -/
def fnExactStoreRoomUptoRow : OpenClaim := { program := "ytmnamclndpfjnaa", sum := "f2dec1fb9fb4a4dfd84a12f626618211f09d9d3ee907930faa2651921c8b6f27", func := "loop.example/poolfiles/laws.FnExactStoreRoom", spec := "fnExactStoreRoom", apart := false, narrowed := true }
def FnExactStoreRoomUptoSaid : Prop := fnExactStoreRoomUptoRow.holds Try.pinned (OpenSpec.upto fnExactStoreRoomSpec)

/-- 'laws.FnStoreNew', WHERE WHAT IT READS IS OF BULK AT MOST 1048576: true; the input reads as it did. -/
def fnStoreNewUptoRow : OpenClaim := { program := "ytmnamclndpfjnaa", sum := "f2dec1fb9fb4a4dfd84a12f626618211f09d9d3ee907930faa2651921c8b6f27", func := "loop.example/poolfiles/laws.FnStoreNew", spec := "fnStoreNew", apart := false, narrowed := true }
def FnStoreNewUptoSaid : Prop := fnStoreNewUptoRow.holds Try.pinned (OpenSpec.upto fnStoreNewSpec)

end Rows
end Go.Proofs.Ytmnamclndpfjnaa
