/-
  No cell of these rows narrows 'for every input' (looked for: loops, veiled, ifaces, maps, wideKeys, modest, calm, conditions, laid).
  DERIVED. THE GIVEN ROWS OF THIS SEAT. 8 by the template 'for every input the law returns true; each argument reads behind the call as it read before'; 0 by the template 'total and deterministic' (their statements: YtndckncoipkhaaaTotals.lean).
  GIVEN WITH THE SEED: the statements are not yours to turn. If you find one false, say at which input.
  Laid BY PROGRAM, IN A SANDBOX (cutbox-rows.mjs): the forced cells as the released guide's own fill.sh prints them over the translation 0e8c2a81d35191dd… (all of the seat's roots in one cut). By AI agents, Wed Nov 11 2026. No macro, syntax, notation, axiom, sorry.
-/
import Derived.Test.YtndckncoipkhaaaChecked
import GoSem.Claim
import GoSem.ClaimJoined
import GoSem.ClaimMapViews
import Derived.JoinedTies
import Derived.KernelRfl
namespace Go.Proofs.Ytndckncoipkhaaa
/- THE CELL 'sum', in the pinned program and in every row, IS THE sha256 OF THE DUMP (.gsa) THAT YtndckncoipkhaaaProg.lean LOADS. Nothing in Lean hashes anything: it is a label: what it is worth is what the hold of that sum in a sandbox is worth. -/
noncomputable def Try.pinned : Pinned := { name := "ytndckncoipkhaaa", sum := "0e8c2a81d35191dde31c4dc1f98b39a8a6d3f5fa0dea14c82a14fd286cfdab77", checked := Try.checked }
namespace Rows
def none {H : Type} : Left H := { results := [], args := [] }

/-- 'laws.FnExactRaidNew': WHATEVER THE INPUT: true; the input reads as it did. -/
def fnExactRaidNewSpec : ChangeSpec := { name := "fnExactRaidNew", fn := fun _ => fun
  | [] => { results := [.lit (.bool true)], args := [] }
  | _ => none }
def fnExactRaidNewRow : OpenClaim := { program := "ytndckncoipkhaaa", sum := "0e8c2a81d35191dde31c4dc1f98b39a8a6d3f5fa0dea14c82a14fd286cfdab77", func := "loop.example/poolfiles/laws.FnExactRaidNew", spec := "fnExactRaidNew", unfollowed := true, recurses := true, apart := false }
def FnExactRaidNewSaid : Prop := fnExactRaidNewRow.holds Try.pinned (OpenSpec.ofChange fnExactRaidNewSpec)

/-- ITS FALSE NEIGHBOUR: 'it returns false'. Refute it at one input. -/
def fnExactRaidNewWrong : ChangeSpec := { name := "fnExactRaidNew", fn := fun _ => fun
  | [] => { results := [.lit (.bool false)], args := [] }
  | _ => none }
def FnExactRaidNewWrongFalsely : Prop := fnExactRaidNewRow.holds Try.pinned (OpenSpec.ofChange fnExactRaidNewWrong)

/-- 'laws.FnExactRaidOk': WHATEVER THE INPUT: true; the input reads as it did. -/
def fnExactRaidOkSpec : ChangeSpec := { name := "fnExactRaidOk", fn := fun _ => fun
  | [d] => { results := [.lit (.bool true)], args := [d] }
  | _ => none }
def fnExactRaidOkRow : OpenClaim := { program := "ytndckncoipkhaaa", sum := "0e8c2a81d35191dde31c4dc1f98b39a8a6d3f5fa0dea14c82a14fd286cfdab77", func := "loop.example/poolfiles/laws.FnExactRaidOk", spec := "fnExactRaidOk", unfollowed := true, recurses := true, apart := false }
def FnExactRaidOkSaid : Prop := fnExactRaidOkRow.holds Try.pinned (OpenSpec.ofChange fnExactRaidOkSpec)

/-- ITS FALSE NEIGHBOUR: 'it returns false'. Refute it at one input. -/
def fnExactRaidOkWrong : ChangeSpec := { name := "fnExactRaidOk", fn := fun _ => fun
  | [d] => { results := [.lit (.bool false)], args := [d] }
  | _ => none }
def FnExactRaidOkWrongFalsely : Prop := fnExactRaidOkRow.holds Try.pinned (OpenSpec.ofChange fnExactRaidOkWrong)

/-- 'laws.FnExactRaidWrite': WHATEVER THE INPUT: true; the input reads as it did. -/
def fnExactRaidWriteSpec : ChangeSpec := { name := "fnExactRaidWrite", fn := fun _ => fun
  | [d1, d2, d3] => { results := [.lit (.bool true)], args := [d1, d2, d3] }
  | _ => none }
def fnExactRaidWriteRow : OpenClaim := { program := "ytndckncoipkhaaa", sum := "0e8c2a81d35191dde31c4dc1f98b39a8a6d3f5fa0dea14c82a14fd286cfdab77", func := "loop.example/poolfiles/laws.FnExactRaidWrite", spec := "fnExactRaidWrite", unfollowed := true, recurses := true, apart := false }
def FnExactRaidWriteSaid : Prop := fnExactRaidWriteRow.holds Try.pinned (OpenSpec.ofChange fnExactRaidWriteSpec)

/-- ITS FALSE NEIGHBOUR: 'it returns false'. Refute it at one input. -/
def fnExactRaidWriteWrong : ChangeSpec := { name := "fnExactRaidWrite", fn := fun _ => fun
  | [d1, d2, d3] => { results := [.lit (.bool false)], args := [d1, d2, d3] }
  | _ => none }
def FnExactRaidWriteWrongFalsely : Prop := fnExactRaidWriteRow.holds Try.pinned (OpenSpec.ofChange fnExactRaidWriteWrong)

/-- 'laws.FnExactRaidRead': WHATEVER THE INPUT: true; the input reads as it did. -/
def fnExactRaidReadSpec : ChangeSpec := { name := "fnExactRaidRead", fn := fun _ => fun
  | [d1, d2] => { results := [.lit (.bool true)], args := [d1, d2] }
  | _ => none }
def fnExactRaidReadRow : OpenClaim := { program := "ytndckncoipkhaaa", sum := "0e8c2a81d35191dde31c4dc1f98b39a8a6d3f5fa0dea14c82a14fd286cfdab77", func := "loop.example/poolfiles/laws.FnExactRaidRead", spec := "fnExactRaidRead", unfollowed := true, recurses := true, apart := false }
def FnExactRaidReadSaid : Prop := fnExactRaidReadRow.holds Try.pinned (OpenSpec.ofChange fnExactRaidReadSpec)

/-- ITS FALSE NEIGHBOUR: 'it returns false'. Refute it at one input. -/
def fnExactRaidReadWrong : ChangeSpec := { name := "fnExactRaidRead", fn := fun _ => fun
  | [d1, d2] => { results := [.lit (.bool false)], args := [d1, d2] }
  | _ => none }
def FnExactRaidReadWrongFalsely : Prop := fnExactRaidReadRow.holds Try.pinned (OpenSpec.ofChange fnExactRaidReadWrong)

/-- 'laws.FnExactRaidHeal': WHATEVER THE INPUT: true; the input reads as it did. -/
def fnExactRaidHealSpec : ChangeSpec := { name := "fnExactRaidHeal", fn := fun _ => fun
  | [d1, d2] => { results := [.lit (.bool true)], args := [d1, d2] }
  | _ => none }
def fnExactRaidHealRow : OpenClaim := { program := "ytndckncoipkhaaa", sum := "0e8c2a81d35191dde31c4dc1f98b39a8a6d3f5fa0dea14c82a14fd286cfdab77", func := "loop.example/poolfiles/laws.FnExactRaidHeal", spec := "fnExactRaidHeal", unfollowed := true, recurses := true, apart := false }
def FnExactRaidHealSaid : Prop := fnExactRaidHealRow.holds Try.pinned (OpenSpec.ofChange fnExactRaidHealSpec)

/-- ITS FALSE NEIGHBOUR: 'it returns false'. Refute it at one input. -/
def fnExactRaidHealWrong : ChangeSpec := { name := "fnExactRaidHeal", fn := fun _ => fun
  | [d1, d2] => { results := [.lit (.bool false)], args := [d1, d2] }
  | _ => none }
def FnExactRaidHealWrongFalsely : Prop := fnExactRaidHealRow.holds Try.pinned (OpenSpec.ofChange fnExactRaidHealWrong)

/-- 'laws.FnExactRaidFlush': WHATEVER THE INPUT: true; the input reads as it did. -/
def fnExactRaidFlushSpec : ChangeSpec := { name := "fnExactRaidFlush", fn := fun _ => fun
  | [d] => { results := [.lit (.bool true)], args := [d] }
  | _ => none }
def fnExactRaidFlushRow : OpenClaim := { program := "ytndckncoipkhaaa", sum := "0e8c2a81d35191dde31c4dc1f98b39a8a6d3f5fa0dea14c82a14fd286cfdab77", func := "loop.example/poolfiles/laws.FnExactRaidFlush", spec := "fnExactRaidFlush", unfollowed := true, recurses := true, apart := false }
def FnExactRaidFlushSaid : Prop := fnExactRaidFlushRow.holds Try.pinned (OpenSpec.ofChange fnExactRaidFlushSpec)

/-- ITS FALSE NEIGHBOUR: 'it returns false'. Refute it at one input. -/
def fnExactRaidFlushWrong : ChangeSpec := { name := "fnExactRaidFlush", fn := fun _ => fun
  | [d] => { results := [.lit (.bool false)], args := [d] }
  | _ => none }
def FnExactRaidFlushWrongFalsely : Prop := fnExactRaidFlushRow.holds Try.pinned (OpenSpec.ofChange fnExactRaidFlushWrong)

/-- 'laws.FnExactRaidCrash': WHATEVER THE INPUT: true; the input reads as it did. -/
def fnExactRaidCrashSpec : ChangeSpec := { name := "fnExactRaidCrash", fn := fun _ => fun
  | [d1, d2, d3] => { results := [.lit (.bool true)], args := [d1, d2, d3] }
  | _ => none }
def fnExactRaidCrashRow : OpenClaim := { program := "ytndckncoipkhaaa", sum := "0e8c2a81d35191dde31c4dc1f98b39a8a6d3f5fa0dea14c82a14fd286cfdab77", func := "loop.example/poolfiles/laws.FnExactRaidCrash", spec := "fnExactRaidCrash", unfollowed := true, recurses := true, apart := false }
def FnExactRaidCrashSaid : Prop := fnExactRaidCrashRow.holds Try.pinned (OpenSpec.ofChange fnExactRaidCrashSpec)

/-- ITS FALSE NEIGHBOUR: 'it returns false'. Refute it at one input. -/
def fnExactRaidCrashWrong : ChangeSpec := { name := "fnExactRaidCrash", fn := fun _ => fun
  | [d1, d2, d3] => { results := [.lit (.bool false)], args := [d1, d2, d3] }
  | _ => none }
def FnExactRaidCrashWrongFalsely : Prop := fnExactRaidCrashRow.holds Try.pinned (OpenSpec.ofChange fnExactRaidCrashWrong)

/-- 'laws.FnExactRaidLose': WHATEVER THE INPUT: true; the input reads as it did. -/
def fnExactRaidLoseSpec : ChangeSpec := { name := "fnExactRaidLose", fn := fun _ => fun
  | [d1, d2] => { results := [.lit (.bool true)], args := [d1, d2] }
  | _ => none }
def fnExactRaidLoseRow : OpenClaim := { program := "ytndckncoipkhaaa", sum := "0e8c2a81d35191dde31c4dc1f98b39a8a6d3f5fa0dea14c82a14fd286cfdab77", func := "loop.example/poolfiles/laws.FnExactRaidLose", spec := "fnExactRaidLose", unfollowed := true, recurses := true, apart := false }
def FnExactRaidLoseSaid : Prop := fnExactRaidLoseRow.holds Try.pinned (OpenSpec.ofChange fnExactRaidLoseSpec)

/-- ITS FALSE NEIGHBOUR: 'it returns false'. Refute it at one input. -/
def fnExactRaidLoseWrong : ChangeSpec := { name := "fnExactRaidLose", fn := fun _ => fun
  | [d1, d2] => { results := [.lit (.bool false)], args := [d1, d2] }
  | _ => none }
def FnExactRaidLoseWrongFalsely : Prop := fnExactRaidLoseRow.holds Try.pinned (OpenSpec.ofChange fnExactRaidLoseWrong)

/- THE SECOND FORM. 'bulk': how many values and letters a reading holds, each counted each time it is reached (what is shared counts as often as it is met; a slice's spare places count too). A statement '..UptoSaid' is the law's where the arguments, and the package variables that the reading takes, are together of bulk at most 1048576: NARROWER than '..Said'. Prove '..Said' where nothing that the law and all that it calls make is longer than what came in: it says more and counts as full. Else prove '..UptoSaid'. A law counts once. -/
mutual
def uptoBulk {H : Type} : DataW H → Nat
  | .lit (.string bytes) => bytes.length + 1
  | .lit _ => 1
  | .nil => 1
  | .ptr d => uptoBulk d + 1
  | .slice elems spare => uptoBulkAll elems + uptoBulkAll spare + 1
  | .agg parts => uptoBulkAll parts + 1
  | .iface _ d => uptoBulk d + 1
  | .map entries => uptoBulkEntries entries + 1
  | .held _ => 1
def uptoBulkAll {H : Type} : List (DataW H) → Nat
  | [] => 0
  | d :: r => uptoBulk d + uptoBulkAll r
def uptoBulkEntries {H : Type} : List (Lit × DataW H) → Nat
  | [] => 0
  | x :: r => uptoBulkEntry x + uptoBulkEntries r
def uptoBulkEntry {H : Type} : Lit × DataW H → Nat
  | (.string bytes, d) => bytes.length + uptoBulk d + 1
  | (_, d) => uptoBulk d + 1
 end
def uptoSmall : (H : Type) → List (DataW H) → Bool := fun _ ds => decide (uptoBulkAll ds ≤ 1048576)
def OpenSpec.upto (s : _root_.Go.ChangeSpec) : _root_.Go.OpenSpec := { _root_.Go.OpenSpec.ofChange s with cond := some uptoSmall }

/-- 'laws.FnExactRaidNew', WHERE WHAT IT READS IS OF BULK AT MOST 1048576: true; the input reads as it did. -/
def fnExactRaidNewUptoRow : OpenClaim := { program := "ytndckncoipkhaaa", sum := "0e8c2a81d35191dde31c4dc1f98b39a8a6d3f5fa0dea14c82a14fd286cfdab77", func := "loop.example/poolfiles/laws.FnExactRaidNew", spec := "fnExactRaidNew", unfollowed := true, recurses := true, apart := false, narrowed := true }
def FnExactRaidNewUptoSaid : Prop := fnExactRaidNewUptoRow.holds Try.pinned (OpenSpec.upto fnExactRaidNewSpec)

/-- 'laws.FnExactRaidOk', WHERE WHAT IT READS IS OF BULK AT MOST 1048576: true; the input reads as it did. -/
def fnExactRaidOkUptoRow : OpenClaim := { program := "ytndckncoipkhaaa", sum := "0e8c2a81d35191dde31c4dc1f98b39a8a6d3f5fa0dea14c82a14fd286cfdab77", func := "loop.example/poolfiles/laws.FnExactRaidOk", spec := "fnExactRaidOk", unfollowed := true, recurses := true, apart := false, narrowed := true }
def FnExactRaidOkUptoSaid : Prop := fnExactRaidOkUptoRow.holds Try.pinned (OpenSpec.upto fnExactRaidOkSpec)

/-- 'laws.FnExactRaidWrite', WHERE WHAT IT READS IS OF BULK AT MOST 1048576: true; the input reads as it did. -/
def fnExactRaidWriteUptoRow : OpenClaim := { program := "ytndckncoipkhaaa", sum := "0e8c2a81d35191dde31c4dc1f98b39a8a6d3f5fa0dea14c82a14fd286cfdab77", func := "loop.example/poolfiles/laws.FnExactRaidWrite", spec := "fnExactRaidWrite", unfollowed := true, recurses := true, apart := false, narrowed := true }
def FnExactRaidWriteUptoSaid : Prop := fnExactRaidWriteUptoRow.holds Try.pinned (OpenSpec.upto fnExactRaidWriteSpec)

/-- 'laws.FnExactRaidRead', WHERE WHAT IT READS IS OF BULK AT MOST 1048576: true; the input reads as it did. -/
def fnExactRaidReadUptoRow : OpenClaim := { program := "ytndckncoipkhaaa", sum := "0e8c2a81d35191dde31c4dc1f98b39a8a6d3f5fa0dea14c82a14fd286cfdab77", func := "loop.example/poolfiles/laws.FnExactRaidRead", spec := "fnExactRaidRead", unfollowed := true, recurses := true, apart := false, narrowed := true }
def FnExactRaidReadUptoSaid : Prop := fnExactRaidReadUptoRow.holds Try.pinned (OpenSpec.upto fnExactRaidReadSpec)

/-- 'laws.FnExactRaidHeal', WHERE WHAT IT READS IS OF BULK AT MOST 1048576: true; the input reads as it did. -/
def fnExactRaidHealUptoRow : OpenClaim := { program := "ytndckncoipkhaaa", sum := "0e8c2a81d35191dde31c4dc1f98b39a8a6d3f5fa0dea14c82a14fd286cfdab77", func := "loop.example/poolfiles/laws.FnExactRaidHeal", spec := "fnExactRaidHeal", unfollowed := true, recurses := true, apart := false, narrowed := true }
def FnExactRaidHealUptoSaid : Prop := fnExactRaidHealUptoRow.holds Try.pinned (OpenSpec.upto fnExactRaidHealSpec)

/-- 'laws.FnExactRaidFlush', WHERE WHAT IT READS IS OF BULK AT MOST 1048576: true; the input reads as it did. -/
def fnExactRaidFlushUptoRow : OpenClaim := { program := "ytndckncoipkhaaa", sum := "0e8c2a81d35191dde31c4dc1f98b39a8a6d3f5fa0dea14c82a14fd286cfdab77", func := "loop.example/poolfiles/laws.FnExactRaidFlush", spec := "fnExactRaidFlush", unfollowed := true, recurses := true, apart := false, narrowed := true }
def FnExactRaidFlushUptoSaid : Prop := fnExactRaidFlushUptoRow.holds Try.pinned (OpenSpec.upto fnExactRaidFlushSpec)

/-- 'laws.FnExactRaidCrash', WHERE WHAT IT READS IS OF BULK AT MOST 1048576: true; the input reads as it did. -/
def fnExactRaidCrashUptoRow : OpenClaim := { program := "ytndckncoipkhaaa", sum := "0e8c2a81d35191dde31c4dc1f98b39a8a6d3f5fa0dea14c82a14fd286cfdab77", func := "loop.example/poolfiles/laws.FnExactRaidCrash", spec := "fnExactRaidCrash", unfollowed := true, recurses := true, apart := false, narrowed := true }
def FnExactRaidCrashUptoSaid : Prop := fnExactRaidCrashUptoRow.holds Try.pinned (OpenSpec.upto fnExactRaidCrashSpec)

/-- 'laws.FnExactRaidLose', WHERE WHAT IT READS IS OF BULK AT MOST 1048576: true; the input reads as it did. -/
def fnExactRaidLoseUptoRow : OpenClaim := { program := "ytndckncoipkhaaa", sum := "0e8c2a81d35191dde31c4dc1f98b39a8a6d3f5fa0dea14c82a14fd286cfdab77", func := "loop.example/poolfiles/laws.FnExactRaidLose", spec := "fnExactRaidLose", unfollowed := true, recurses := true, apart := false, narrowed := true }
def FnExactRaidLoseUptoSaid : Prop := fnExactRaidLoseUptoRow.holds Try.pinned (OpenSpec.upto fnExactRaidLoseSpec)

end Rows
end Go.Proofs.Ytndckncoipkhaaa
