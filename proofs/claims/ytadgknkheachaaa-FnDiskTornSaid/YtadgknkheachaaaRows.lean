/-
  No cell of these rows narrows 'for every input' (looked for: loops, veiled, ifaces, maps, wideKeys, modest, calm, conditions, laid).
  DERIVED. THE GIVEN ROWS OF THIS SEAT. 19 by the template 'for every input the law returns true; each argument reads behind the call as it read before'; 0 by the template 'total and deterministic' (their statements: YtadgknkheachaaaTotals.lean).
  GIVEN WITH THE SEED: the statements are not yours to turn. If you find one false, say at which input.
  Laid BY PROGRAM, IN A SANDBOX (cutbox-rows.mjs): the forced cells as the released guide's own fill.sh prints them over the translation 61abc7d21fa44416… (all of the seat's roots in one cut). By AI agents, Wed Nov 11 2026. No macro, syntax, notation, axiom, sorry.
-/
import Derived.Test.YtadgknkheachaaaChecked
import GoSem.Claim
import GoSem.ClaimJoined
import GoSem.ClaimMapViews
import Derived.JoinedTies
import Derived.KernelRfl
namespace Go.Proofs.Ytadgknkheachaaa
/- THE CELL 'sum', in the pinned program and in every row, IS THE sha256 OF THE DUMP (.gsa) THAT YtadgknkheachaaaProg.lean LOADS. Nothing in Lean hashes anything: it is a label: what it is worth is what the hold of that sum in a sandbox is worth. -/
noncomputable def Try.pinned : Pinned := { name := "ytadgknkheachaaa", sum := "61abc7d21fa4441620116522fd1ce15e78358645097feb4c2653e61060693c7e", checked := Try.checked }
namespace Rows
def none {H : Type} : Left H := { results := [], args := [] }

/-- 'laws.FnExactDiskNew': WHATEVER THE INPUT: true; the input reads as it did. -/
def fnExactDiskNewSpec : ChangeSpec := { name := "fnExactDiskNew", fn := fun _ => fun
  | [] => { results := [.lit (.bool true)], args := [] }
  | _ => none }
def fnExactDiskNewRow : OpenClaim := { program := "ytadgknkheachaaa", sum := "61abc7d21fa4441620116522fd1ce15e78358645097feb4c2653e61060693c7e", func := "loop.example/poolfiles/laws.FnExactDiskNew", spec := "fnExactDiskNew", apart := false }
def FnExactDiskNewSaid : Prop := fnExactDiskNewRow.holds Try.pinned (OpenSpec.ofChange fnExactDiskNewSpec)

/-- ITS FALSE NEIGHBOUR: 'it returns false'. Refute it at one input. -/
def fnExactDiskNewWrong : ChangeSpec := { name := "fnExactDiskNew", fn := fun _ => fun
  | [] => { results := [.lit (.bool false)], args := [] }
  | _ => none }
def FnExactDiskNewWrongFalsely : Prop := fnExactDiskNewRow.holds Try.pinned (OpenSpec.ofChange fnExactDiskNewWrong)

/-- 'laws.FnExactDiskOk': WHATEVER THE INPUT: true; the input reads as it did. -/
def fnExactDiskOkSpec : ChangeSpec := { name := "fnExactDiskOk", fn := fun _ => fun
  | [d] => { results := [.lit (.bool true)], args := [d] }
  | _ => none }
def fnExactDiskOkRow : OpenClaim := { program := "ytadgknkheachaaa", sum := "61abc7d21fa4441620116522fd1ce15e78358645097feb4c2653e61060693c7e", func := "loop.example/poolfiles/laws.FnExactDiskOk", spec := "fnExactDiskOk", apart := false }
def FnExactDiskOkSaid : Prop := fnExactDiskOkRow.holds Try.pinned (OpenSpec.ofChange fnExactDiskOkSpec)

/-- ITS FALSE NEIGHBOUR: 'it returns false'. Refute it at one input. -/
def fnExactDiskOkWrong : ChangeSpec := { name := "fnExactDiskOk", fn := fun _ => fun
  | [d] => { results := [.lit (.bool false)], args := [d] }
  | _ => none }
def FnExactDiskOkWrongFalsely : Prop := fnExactDiskOkRow.holds Try.pinned (OpenSpec.ofChange fnExactDiskOkWrong)

/-- 'laws.FnExactDiskRead': WHATEVER THE INPUT: true; the input reads as it did. -/
def fnExactDiskReadSpec : ChangeSpec := { name := "fnExactDiskRead", fn := fun _ => fun
  | [d1, d2] => { results := [.lit (.bool true)], args := [d1, d2] }
  | _ => none }
def fnExactDiskReadRow : OpenClaim := { program := "ytadgknkheachaaa", sum := "61abc7d21fa4441620116522fd1ce15e78358645097feb4c2653e61060693c7e", func := "loop.example/poolfiles/laws.FnExactDiskRead", spec := "fnExactDiskRead", unfollowed := true, recurses := true, apart := false }
def FnExactDiskReadSaid : Prop := fnExactDiskReadRow.holds Try.pinned (OpenSpec.ofChange fnExactDiskReadSpec)

/-- ITS FALSE NEIGHBOUR: 'it returns false'. Refute it at one input. -/
def fnExactDiskReadWrong : ChangeSpec := { name := "fnExactDiskRead", fn := fun _ => fun
  | [d1, d2] => { results := [.lit (.bool false)], args := [d1, d2] }
  | _ => none }
def FnExactDiskReadWrongFalsely : Prop := fnExactDiskReadRow.holds Try.pinned (OpenSpec.ofChange fnExactDiskReadWrong)

/-- 'laws.FnExactDiskWrite': WHATEVER THE INPUT: true; the input reads as it did. -/
def fnExactDiskWriteSpec : ChangeSpec := { name := "fnExactDiskWrite", fn := fun _ => fun
  | [d1, d2, d3] => { results := [.lit (.bool true)], args := [d1, d2, d3] }
  | _ => none }
def fnExactDiskWriteRow : OpenClaim := { program := "ytadgknkheachaaa", sum := "61abc7d21fa4441620116522fd1ce15e78358645097feb4c2653e61060693c7e", func := "loop.example/poolfiles/laws.FnExactDiskWrite", spec := "fnExactDiskWrite", apart := false }
def FnExactDiskWriteSaid : Prop := fnExactDiskWriteRow.holds Try.pinned (OpenSpec.ofChange fnExactDiskWriteSpec)

/-- ITS FALSE NEIGHBOUR: 'it returns false'. Refute it at one input. -/
def fnExactDiskWriteWrong : ChangeSpec := { name := "fnExactDiskWrite", fn := fun _ => fun
  | [d1, d2, d3] => { results := [.lit (.bool false)], args := [d1, d2, d3] }
  | _ => none }
def FnExactDiskWriteWrongFalsely : Prop := fnExactDiskWriteRow.holds Try.pinned (OpenSpec.ofChange fnExactDiskWriteWrong)

/-- 'laws.FnExactDiskFlush': WHATEVER THE INPUT: true; the input reads as it did. -/
def fnExactDiskFlushSpec : ChangeSpec := { name := "fnExactDiskFlush", fn := fun _ => fun
  | [d] => { results := [.lit (.bool true)], args := [d] }
  | _ => none }
def fnExactDiskFlushRow : OpenClaim := { program := "ytadgknkheachaaa", sum := "61abc7d21fa4441620116522fd1ce15e78358645097feb4c2653e61060693c7e", func := "loop.example/poolfiles/laws.FnExactDiskFlush", spec := "fnExactDiskFlush", apart := false }
def FnExactDiskFlushSaid : Prop := fnExactDiskFlushRow.holds Try.pinned (OpenSpec.ofChange fnExactDiskFlushSpec)

/-- ITS FALSE NEIGHBOUR: 'it returns false'. Refute it at one input. -/
def fnExactDiskFlushWrong : ChangeSpec := { name := "fnExactDiskFlush", fn := fun _ => fun
  | [d] => { results := [.lit (.bool false)], args := [d] }
  | _ => none }
def FnExactDiskFlushWrongFalsely : Prop := fnExactDiskFlushRow.holds Try.pinned (OpenSpec.ofChange fnExactDiskFlushWrong)

/-- 'laws.FnExactDiskCrash': WHATEVER THE INPUT: true; the input reads as it did. -/
def fnExactDiskCrashSpec : ChangeSpec := { name := "fnExactDiskCrash", fn := fun _ => fun
  | [d1, d2, d3] => { results := [.lit (.bool true)], args := [d1, d2, d3] }
  | _ => none }
def fnExactDiskCrashRow : OpenClaim := { program := "ytadgknkheachaaa", sum := "61abc7d21fa4441620116522fd1ce15e78358645097feb4c2653e61060693c7e", func := "loop.example/poolfiles/laws.FnExactDiskCrash", spec := "fnExactDiskCrash", apart := false }
def FnExactDiskCrashSaid : Prop := fnExactDiskCrashRow.holds Try.pinned (OpenSpec.ofChange fnExactDiskCrashSpec)

/-- ITS FALSE NEIGHBOUR: 'it returns false'. Refute it at one input. -/
def fnExactDiskCrashWrong : ChangeSpec := { name := "fnExactDiskCrash", fn := fun _ => fun
  | [d1, d2, d3] => { results := [.lit (.bool false)], args := [d1, d2, d3] }
  | _ => none }
def FnExactDiskCrashWrongFalsely : Prop := fnExactDiskCrashRow.holds Try.pinned (OpenSpec.ofChange fnExactDiskCrashWrong)

/-- 'laws.FnExactDiskSpoil': WHATEVER THE INPUT: true; the input reads as it did. -/
def fnExactDiskSpoilSpec : ChangeSpec := { name := "fnExactDiskSpoil", fn := fun _ => fun
  | [d1, d2, d3] => { results := [.lit (.bool true)], args := [d1, d2, d3] }
  | _ => none }
def fnExactDiskSpoilRow : OpenClaim := { program := "ytadgknkheachaaa", sum := "61abc7d21fa4441620116522fd1ce15e78358645097feb4c2653e61060693c7e", func := "loop.example/poolfiles/laws.FnExactDiskSpoil", spec := "fnExactDiskSpoil", apart := false }
def FnExactDiskSpoilSaid : Prop := fnExactDiskSpoilRow.holds Try.pinned (OpenSpec.ofChange fnExactDiskSpoilSpec)

/-- ITS FALSE NEIGHBOUR: 'it returns false'. Refute it at one input. -/
def fnExactDiskSpoilWrong : ChangeSpec := { name := "fnExactDiskSpoil", fn := fun _ => fun
  | [d1, d2, d3] => { results := [.lit (.bool false)], args := [d1, d2, d3] }
  | _ => none }
def FnExactDiskSpoilWrongFalsely : Prop := fnExactDiskSpoilRow.holds Try.pinned (OpenSpec.ofChange fnExactDiskSpoilWrong)

/-- 'laws.FnExactDiskLose': WHATEVER THE INPUT: true; the input reads as it did. -/
def fnExactDiskLoseSpec : ChangeSpec := { name := "fnExactDiskLose", fn := fun _ => fun
  | [] => { results := [.lit (.bool true)], args := [] }
  | _ => none }
def fnExactDiskLoseRow : OpenClaim := { program := "ytadgknkheachaaa", sum := "61abc7d21fa4441620116522fd1ce15e78358645097feb4c2653e61060693c7e", func := "loop.example/poolfiles/laws.FnExactDiskLose", spec := "fnExactDiskLose", apart := false }
def FnExactDiskLoseSaid : Prop := fnExactDiskLoseRow.holds Try.pinned (OpenSpec.ofChange fnExactDiskLoseSpec)

/-- ITS FALSE NEIGHBOUR: 'it returns false'. Refute it at one input. -/
def fnExactDiskLoseWrong : ChangeSpec := { name := "fnExactDiskLose", fn := fun _ => fun
  | [] => { results := [.lit (.bool false)], args := [] }
  | _ => none }
def FnExactDiskLoseWrongFalsely : Prop := fnExactDiskLoseRow.holds Try.pinned (OpenSpec.ofChange fnExactDiskLoseWrong)

/-- 'laws.FnDiskNew': WHATEVER THE INPUT: true; the input reads as it did. -/
def fnDiskNewSpec : ChangeSpec := { name := "fnDiskNew", fn := fun _ => fun
  | [d] => { results := [.lit (.bool true)], args := [d] }
  | _ => none }
def fnDiskNewRow : OpenClaim := { program := "ytadgknkheachaaa", sum := "61abc7d21fa4441620116522fd1ce15e78358645097feb4c2653e61060693c7e", func := "loop.example/poolfiles/laws.FnDiskNew", spec := "fnDiskNew", unfollowed := true, recurses := true, apart := false }
def FnDiskNewSaid : Prop := fnDiskNewRow.holds Try.pinned (OpenSpec.ofChange fnDiskNewSpec)

/-- ITS FALSE NEIGHBOUR: 'it returns false'. Refute it at one input. -/
def fnDiskNewWrong : ChangeSpec := { name := "fnDiskNew", fn := fun _ => fun
  | [d] => { results := [.lit (.bool false)], args := [d] }
  | _ => none }
def FnDiskNewWrongFalsely : Prop := fnDiskNewRow.holds Try.pinned (OpenSpec.ofChange fnDiskNewWrong)

/-- 'laws.FnDiskOk': WHATEVER THE INPUT: true; the input reads as it did. -/
def fnDiskOkSpec : ChangeSpec := { name := "fnDiskOk", fn := fun _ => fun
  | [d] => { results := [.lit (.bool true)], args := [d] }
  | _ => none }
def fnDiskOkRow : OpenClaim := { program := "ytadgknkheachaaa", sum := "61abc7d21fa4441620116522fd1ce15e78358645097feb4c2653e61060693c7e", func := "loop.example/poolfiles/laws.FnDiskOk", spec := "fnDiskOk", apart := false }
def FnDiskOkSaid : Prop := fnDiskOkRow.holds Try.pinned (OpenSpec.ofChange fnDiskOkSpec)

/-- ITS FALSE NEIGHBOUR: 'it returns false'. Refute it at one input. -/
def fnDiskOkWrong : ChangeSpec := { name := "fnDiskOk", fn := fun _ => fun
  | [d] => { results := [.lit (.bool false)], args := [d] }
  | _ => none }
def FnDiskOkWrongFalsely : Prop := fnDiskOkRow.holds Try.pinned (OpenSpec.ofChange fnDiskOkWrong)

/-- 'laws.FnDiskRead': WHATEVER THE INPUT: true; the input reads as it did. -/
def fnDiskReadSpec : ChangeSpec := { name := "fnDiskRead", fn := fun _ => fun
  | [d] => { results := [.lit (.bool true)], args := [d] }
  | _ => none }
def fnDiskReadRow : OpenClaim := { program := "ytadgknkheachaaa", sum := "61abc7d21fa4441620116522fd1ce15e78358645097feb4c2653e61060693c7e", func := "loop.example/poolfiles/laws.FnDiskRead", spec := "fnDiskRead", unfollowed := true, recurses := true, apart := false }
def FnDiskReadSaid : Prop := fnDiskReadRow.holds Try.pinned (OpenSpec.ofChange fnDiskReadSpec)

/-- ITS FALSE NEIGHBOUR: 'it returns false'. Refute it at one input. -/
def fnDiskReadWrong : ChangeSpec := { name := "fnDiskRead", fn := fun _ => fun
  | [d] => { results := [.lit (.bool false)], args := [d] }
  | _ => none }
def FnDiskReadWrongFalsely : Prop := fnDiskReadRow.holds Try.pinned (OpenSpec.ofChange fnDiskReadWrong)

/-- 'laws.FnDiskWrite': WHATEVER THE INPUT: true; the input reads as it did. -/
def fnDiskWriteSpec : ChangeSpec := { name := "fnDiskWrite", fn := fun _ => fun
  | [d1, d2] => { results := [.lit (.bool true)], args := [d1, d2] }
  | _ => none }
def fnDiskWriteRow : OpenClaim := { program := "ytadgknkheachaaa", sum := "61abc7d21fa4441620116522fd1ce15e78358645097feb4c2653e61060693c7e", func := "loop.example/poolfiles/laws.FnDiskWrite", spec := "fnDiskWrite", unfollowed := true, recurses := true, apart := false }
def FnDiskWriteSaid : Prop := fnDiskWriteRow.holds Try.pinned (OpenSpec.ofChange fnDiskWriteSpec)

/-- ITS FALSE NEIGHBOUR: 'it returns false'. Refute it at one input. -/
def fnDiskWriteWrong : ChangeSpec := { name := "fnDiskWrite", fn := fun _ => fun
  | [d1, d2] => { results := [.lit (.bool false)], args := [d1, d2] }
  | _ => none }
def FnDiskWriteWrongFalsely : Prop := fnDiskWriteRow.holds Try.pinned (OpenSpec.ofChange fnDiskWriteWrong)

/-- 'laws.FnDiskFlush': WHATEVER THE INPUT: true; the input reads as it did. -/
def fnDiskFlushSpec : ChangeSpec := { name := "fnDiskFlush", fn := fun _ => fun
  | [d] => { results := [.lit (.bool true)], args := [d] }
  | _ => none }
def fnDiskFlushRow : OpenClaim := { program := "ytadgknkheachaaa", sum := "61abc7d21fa4441620116522fd1ce15e78358645097feb4c2653e61060693c7e", func := "loop.example/poolfiles/laws.FnDiskFlush", spec := "fnDiskFlush", apart := false }
def FnDiskFlushSaid : Prop := fnDiskFlushRow.holds Try.pinned (OpenSpec.ofChange fnDiskFlushSpec)

/-- ITS FALSE NEIGHBOUR: 'it returns false'. Refute it at one input. -/
def fnDiskFlushWrong : ChangeSpec := { name := "fnDiskFlush", fn := fun _ => fun
  | [d] => { results := [.lit (.bool false)], args := [d] }
  | _ => none }
def FnDiskFlushWrongFalsely : Prop := fnDiskFlushRow.holds Try.pinned (OpenSpec.ofChange fnDiskFlushWrong)

/-- 'laws.FnDiskCrash': WHATEVER THE INPUT: true; the input reads as it did. -/
def fnDiskCrashSpec : ChangeSpec := { name := "fnDiskCrash", fn := fun _ => fun
  | [d] => { results := [.lit (.bool true)], args := [d] }
  | _ => none }
def fnDiskCrashRow : OpenClaim := { program := "ytadgknkheachaaa", sum := "61abc7d21fa4441620116522fd1ce15e78358645097feb4c2653e61060693c7e", func := "loop.example/poolfiles/laws.FnDiskCrash", spec := "fnDiskCrash", apart := false }
def FnDiskCrashSaid : Prop := fnDiskCrashRow.holds Try.pinned (OpenSpec.ofChange fnDiskCrashSpec)

/-- ITS FALSE NEIGHBOUR: 'it returns false'. Refute it at one input. -/
def fnDiskCrashWrong : ChangeSpec := { name := "fnDiskCrash", fn := fun _ => fun
  | [d] => { results := [.lit (.bool false)], args := [d] }
  | _ => none }
def FnDiskCrashWrongFalsely : Prop := fnDiskCrashRow.holds Try.pinned (OpenSpec.ofChange fnDiskCrashWrong)

/-- 'laws.FnDiskSpoil': WHATEVER THE INPUT: true; the input reads as it did. -/
def fnDiskSpoilSpec : ChangeSpec := { name := "fnDiskSpoil", fn := fun _ => fun
  | [d] => { results := [.lit (.bool true)], args := [d] }
  | _ => none }
def fnDiskSpoilRow : OpenClaim := { program := "ytadgknkheachaaa", sum := "61abc7d21fa4441620116522fd1ce15e78358645097feb4c2653e61060693c7e", func := "loop.example/poolfiles/laws.FnDiskSpoil", spec := "fnDiskSpoil", apart := false }
def FnDiskSpoilSaid : Prop := fnDiskSpoilRow.holds Try.pinned (OpenSpec.ofChange fnDiskSpoilSpec)

/-- ITS FALSE NEIGHBOUR: 'it returns false'. Refute it at one input. -/
def fnDiskSpoilWrong : ChangeSpec := { name := "fnDiskSpoil", fn := fun _ => fun
  | [d] => { results := [.lit (.bool false)], args := [d] }
  | _ => none }
def FnDiskSpoilWrongFalsely : Prop := fnDiskSpoilRow.holds Try.pinned (OpenSpec.ofChange fnDiskSpoilWrong)

/-- 'laws.FnDiskLose': WHATEVER THE INPUT: true; the input reads as it did. -/
def fnDiskLoseSpec : ChangeSpec := { name := "fnDiskLose", fn := fun _ => fun
  | [d] => { results := [.lit (.bool true)], args := [d] }
  | _ => none }
def fnDiskLoseRow : OpenClaim := { program := "ytadgknkheachaaa", sum := "61abc7d21fa4441620116522fd1ce15e78358645097feb4c2653e61060693c7e", func := "loop.example/poolfiles/laws.FnDiskLose", spec := "fnDiskLose", unfollowed := true, recurses := true, apart := false }
def FnDiskLoseSaid : Prop := fnDiskLoseRow.holds Try.pinned (OpenSpec.ofChange fnDiskLoseSpec)

/-- ITS FALSE NEIGHBOUR: 'it returns false'. Refute it at one input. -/
def fnDiskLoseWrong : ChangeSpec := { name := "fnDiskLose", fn := fun _ => fun
  | [d] => { results := [.lit (.bool false)], args := [d] }
  | _ => none }
def FnDiskLoseWrongFalsely : Prop := fnDiskLoseRow.holds Try.pinned (OpenSpec.ofChange fnDiskLoseWrong)

/-- 'laws.FnDiskLast': WHATEVER THE INPUT: true; the input reads as it did. -/
def fnDiskLastSpec : ChangeSpec := { name := "fnDiskLast", fn := fun _ => fun
  | [d1, d2] => { results := [.lit (.bool true)], args := [d1, d2] }
  | _ => none }
def fnDiskLastRow : OpenClaim := { program := "ytadgknkheachaaa", sum := "61abc7d21fa4441620116522fd1ce15e78358645097feb4c2653e61060693c7e", func := "loop.example/poolfiles/laws.FnDiskLast", spec := "fnDiskLast", unfollowed := true, recurses := true, apart := false }
def FnDiskLastSaid : Prop := fnDiskLastRow.holds Try.pinned (OpenSpec.ofChange fnDiskLastSpec)

/-- ITS FALSE NEIGHBOUR: 'it returns false'. Refute it at one input. -/
def fnDiskLastWrong : ChangeSpec := { name := "fnDiskLast", fn := fun _ => fun
  | [d1, d2] => { results := [.lit (.bool false)], args := [d1, d2] }
  | _ => none }
def FnDiskLastWrongFalsely : Prop := fnDiskLastRow.holds Try.pinned (OpenSpec.ofChange fnDiskLastWrong)

/-- 'laws.FnDiskOrder': WHATEVER THE INPUT: true; the input reads as it did. -/
def fnDiskOrderSpec : ChangeSpec := { name := "fnDiskOrder", fn := fun _ => fun
  | [d1, d2] => { results := [.lit (.bool true)], args := [d1, d2] }
  | _ => none }
def fnDiskOrderRow : OpenClaim := { program := "ytadgknkheachaaa", sum := "61abc7d21fa4441620116522fd1ce15e78358645097feb4c2653e61060693c7e", func := "loop.example/poolfiles/laws.FnDiskOrder", spec := "fnDiskOrder", apart := false }
def FnDiskOrderSaid : Prop := fnDiskOrderRow.holds Try.pinned (OpenSpec.ofChange fnDiskOrderSpec)

/-- ITS FALSE NEIGHBOUR: 'it returns false'. Refute it at one input. -/
def fnDiskOrderWrong : ChangeSpec := { name := "fnDiskOrder", fn := fun _ => fun
  | [d1, d2] => { results := [.lit (.bool false)], args := [d1, d2] }
  | _ => none }
def FnDiskOrderWrongFalsely : Prop := fnDiskOrderRow.holds Try.pinned (OpenSpec.ofChange fnDiskOrderWrong)

/-- 'laws.FnDiskTorn': WHATEVER THE INPUT: true; the input reads as it did. -/
def fnDiskTornSpec : ChangeSpec := { name := "fnDiskTorn", fn := fun _ => fun
  | [d] => { results := [.lit (.bool true)], args := [d] }
  | _ => none }
def fnDiskTornRow : OpenClaim := { program := "ytadgknkheachaaa", sum := "61abc7d21fa4441620116522fd1ce15e78358645097feb4c2653e61060693c7e", func := "loop.example/poolfiles/laws.FnDiskTorn", spec := "fnDiskTorn", apart := false }
def FnDiskTornSaid : Prop := fnDiskTornRow.holds Try.pinned (OpenSpec.ofChange fnDiskTornSpec)

/-- ITS FALSE NEIGHBOUR: 'it returns false'. Refute it at one input. -/
def fnDiskTornWrong : ChangeSpec := { name := "fnDiskTorn", fn := fun _ => fun
  | [d] => { results := [.lit (.bool false)], args := [d] }
  | _ => none }
def FnDiskTornWrongFalsely : Prop := fnDiskTornRow.holds Try.pinned (OpenSpec.ofChange fnDiskTornWrong)

/- THE SECOND FORM. 'bulk': how many values and letters a reading holds, each counted each time it is reached (what is shared counts as often as it is met; a slice's spare places count too). A statement '..UptoSaid' is the law's where the arguments, and the package variables that the reading takes, are together of bulk at most 1048576: NARROWER than '..Said'. Prove '..Said' where nothing that the law and all that it calls make is longer than what came in: it says more and counts as full. Else prove '..UptoSaid'. A law counts once. -/
mutual
def uptoBulk {H : Type} : DataW H → Nat
  | .lit (.string bytes) => bytes.length + 1
  | .lit _ => 1
  | .nil => 1
  | .ptr d => uptoBulk d + 1
  | .slice elems spare => uptoBulkAll elems + uptoBulkAll spare + 1
  | .agg parts => uptoBulkAll parts + 1
  | .iface _ d => uptoBulk d + 1
  | .map entries => uptoBulkEntries entries + 1
  | .held _ => 1
def uptoBulkAll {H : Type} : List (DataW H) → Nat
  | [] => 0
  | d :: r => uptoBulk d + uptoBulkAll r
def uptoBulkEntries {H : Type} : List (Lit × DataW H) → Nat
  | [] => 0
  | x :: r => uptoBulkEntry x + uptoBulkEntries r
def uptoBulkEntry {H : Type} : Lit × DataW H → Nat
  | (.string bytes, d) => bytes.length + uptoBulk d + 1
  | (_, d) => uptoBulk d + 1
 end
def uptoSmall : (H : Type) → List (DataW H) → Bool := fun _ ds => decide (uptoBulkAll ds ≤ 1048576)
def OpenSpec.upto (s : _root_.Go.ChangeSpec) : _root_.Go.OpenSpec := { _root_.Go.OpenSpec.ofChange s with cond := some uptoSmall }

/-- 'laws.FnExactDiskNew', WHERE WHAT IT READS IS OF BULK AT MOST 1048576: true; the input reads as it did. -/
def fnExactDiskNewUptoRow : OpenClaim := { program := "ytadgknkheachaaa", sum := "61abc7d21fa4441620116522fd1ce15e78358645097feb4c2653e61060693c7e", func := "loop.example/poolfiles/laws.FnExactDiskNew", spec := "fnExactDiskNew", apart := false, narrowed := true }
def FnExactDiskNewUptoSaid : Prop := fnExactDiskNewUptoRow.holds Try.pinned (OpenSpec.upto fnExactDiskNewSpec)

/-- 'laws.FnExactDiskOk', WHERE WHAT IT READS IS OF BULK AT MOST 1048576: true; the input reads as it did. -/
def fnExactDiskOkUptoRow : OpenClaim := { program := "ytadgknkheachaaa", sum := "61abc7d21fa4441620116522fd1ce15e78358645097feb4c2653e61060693c7e", func := "loop.example/poolfiles/laws.FnExactDiskOk", spec := "fnExactDiskOk", apart := false, narrowed := true }
def FnExactDiskOkUptoSaid : Prop := fnExactDiskOkUptoRow.holds Try.pinned (OpenSpec.upto fnExactDiskOkSpec)

/-- 'laws.FnExactDiskRead', WHERE WHAT IT READS IS OF BULK AT MOST 1048576: true; the input reads as it did. -/
def fnExactDiskReadUptoRow : OpenClaim := { program := "ytadgknkheachaaa", sum := "61abc7d21fa4441620116522fd1ce15e78358645097feb4c2653e61060693c7e", func := "loop.example/poolfiles/laws.FnExactDiskRead", spec := "fnExactDiskRead", unfollowed := true, recurses := true, apart := false, narrowed := true }
def FnExactDiskReadUptoSaid : Prop := fnExactDiskReadUptoRow.holds Try.pinned (OpenSpec.upto fnExactDiskReadSpec)

/-- 'laws.FnExactDiskWrite', WHERE WHAT IT READS IS OF BULK AT MOST 1048576: true; the input reads as it did. -/
def fnExactDiskWriteUptoRow : OpenClaim := { program := "ytadgknkheachaaa", sum := "61abc7d21fa4441620116522fd1ce15e78358645097feb4c2653e61060693c7e", func := "loop.example/poolfiles/laws.FnExactDiskWrite", spec := "fnExactDiskWrite", apart := false, narrowed := true }
def FnExactDiskWriteUptoSaid : Prop := fnExactDiskWriteUptoRow.holds Try.pinned (OpenSpec.upto fnExactDiskWriteSpec)

/-- 'laws.FnExactDiskFlush', WHERE WHAT IT READS IS OF BULK AT MOST 1048576: true; the input reads as it did. -/
def fnExactDiskFlushUptoRow : OpenClaim := { program := "ytadgknkheachaaa", sum := "61abc7d21fa4441620116522fd1ce15e78358645097feb4c2653e61060693c7e", func := "loop.example/poolfiles/laws.FnExactDiskFlush", spec := "fnExactDiskFlush", apart := false, narrowed := true }
def FnExactDiskFlushUptoSaid : Prop := fnExactDiskFlushUptoRow.holds Try.pinned (OpenSpec.upto fnExactDiskFlushSpec)

/-- 'laws.FnExactDiskCrash', WHERE WHAT IT READS IS OF BULK AT MOST 1048576: true; the input reads as it did. -/
def fnExactDiskCrashUptoRow : OpenClaim := { program := "ytadgknkheachaaa", sum := "61abc7d21fa4441620116522fd1ce15e78358645097feb4c2653e61060693c7e", func := "loop.example/poolfiles/laws.FnExactDiskCrash", spec := "fnExactDiskCrash", apart := false, narrowed := true }
def FnExactDiskCrashUptoSaid : Prop := fnExactDiskCrashUptoRow.holds Try.pinned (OpenSpec.upto fnExactDiskCrashSpec)

/-- 'laws.FnExactDiskSpoil', WHERE WHAT IT READS IS OF BULK AT MOST 1048576: true; the input reads as it did. -/
def fnExactDiskSpoilUptoRow : OpenClaim := { program := "ytadgknkheachaaa", sum := "61abc7d21fa4441620116522fd1ce15e78358645097feb4c2653e61060693c7e", func := "loop.example/poolfiles/laws.FnExactDiskSpoil", spec := "fnExactDiskSpoil", apart := false, narrowed := true }
def FnExactDiskSpoilUptoSaid : Prop := fnExactDiskSpoilUptoRow.holds Try.pinned (OpenSpec.upto fnExactDiskSpoilSpec)

/-- 'laws.FnExactDiskLose', WHERE WHAT IT READS IS OF BULK AT MOST 1048576: true; the input reads as it did. -/
def fnExactDiskLoseUptoRow : OpenClaim := { program := "ytadgknkheachaaa", sum := "61abc7d21fa4441620116522fd1ce15e78358645097feb4c2653e61060693c7e", func := "loop.example/poolfiles/laws.FnExactDiskLose", spec := "fnExactDiskLose", apart := false, narrowed := true }
def FnExactDiskLoseUptoSaid : Prop := fnExactDiskLoseUptoRow.holds Try.pinned (OpenSpec.upto fnExactDiskLoseSpec)

/-- 'laws.FnDiskNew', WHERE WHAT IT READS IS OF BULK AT MOST 1048576: true; the input reads as it did. -/
def fnDiskNewUptoRow : OpenClaim := { program := "ytadgknkheachaaa", sum := "61abc7d21fa4441620116522fd1ce15e78358645097feb4c2653e61060693c7e", func := "loop.example/poolfiles/laws.FnDiskNew", spec := "fnDiskNew", unfollowed := true, recurses := true, apart := false, narrowed := true }
def FnDiskNewUptoSaid : Prop := fnDiskNewUptoRow.holds Try.pinned (OpenSpec.upto fnDiskNewSpec)

/-- 'laws.FnDiskOk', WHERE WHAT IT READS IS OF BULK AT MOST 1048576: true; the input reads as it did. -/
def fnDiskOkUptoRow : OpenClaim := { program := "ytadgknkheachaaa", sum := "61abc7d21fa4441620116522fd1ce15e78358645097feb4c2653e61060693c7e", func := "loop.example/poolfiles/laws.FnDiskOk", spec := "fnDiskOk", apart := false, narrowed := true }
def FnDiskOkUptoSaid : Prop := fnDiskOkUptoRow.holds Try.pinned (OpenSpec.upto fnDiskOkSpec)

/-- 'laws.FnDiskRead', WHERE WHAT IT READS IS OF BULK AT MOST 1048576: true; the input reads as it did. -/
def fnDiskReadUptoRow : OpenClaim := { program := "ytadgknkheachaaa", sum := "61abc7d21fa4441620116522fd1ce15e78358645097feb4c2653e61060693c7e", func := "loop.example/poolfiles/laws.FnDiskRead", spec := "fnDiskRead", unfollowed := true, recurses := true, apart := false, narrowed := true }
def FnDiskReadUptoSaid : Prop := fnDiskReadUptoRow.holds Try.pinned (OpenSpec.upto fnDiskReadSpec)

/-- 'laws.FnDiskWrite', WHERE WHAT IT READS IS OF BULK AT MOST 1048576: true; the input reads as it did. -/
def fnDiskWriteUptoRow : OpenClaim := { program := "ytadgknkheachaaa", sum := "61abc7d21fa4441620116522fd1ce15e78358645097feb4c2653e61060693c7e", func := "loop.example/poolfiles/laws.FnDiskWrite", spec := "fnDiskWrite", unfollowed := true, recurses := true, apart := false, narrowed := true }
def FnDiskWriteUptoSaid : Prop := fnDiskWriteUptoRow.holds Try.pinned (OpenSpec.upto fnDiskWriteSpec)

/-- 'laws.FnDiskFlush', WHERE WHAT IT READS IS OF BULK AT MOST 1048576: true; the input reads as it did. -/
def fnDiskFlushUptoRow : OpenClaim := { program := "ytadgknkheachaaa", sum := "61abc7d21fa4441620116522fd1ce15e78358645097feb4c2653e61060693c7e", func := "loop.example/poolfiles/laws.FnDiskFlush", spec := "fnDiskFlush", apart := false, narrowed := true }
def FnDiskFlushUptoSaid : Prop := fnDiskFlushUptoRow.holds Try.pinned (OpenSpec.upto fnDiskFlushSpec)

/-- 'laws.FnDiskCrash', WHERE WHAT IT READS IS OF BULK AT MOST 1048576: true; the input reads as it did. -/
def fnDiskCrashUptoRow : OpenClaim := { program := "ytadgknkheachaaa", sum := "61abc7d21fa4441620116522fd1ce15e78358645097feb4c2653e61060693c7e", func := "loop.example/poolfiles/laws.FnDiskCrash", spec := "fnDiskCrash", apart := false, narrowed := true }
def FnDiskCrashUptoSaid : Prop := fnDiskCrashUptoRow.holds Try.pinned (OpenSpec.upto fnDiskCrashSpec)

/-- 'laws.FnDiskSpoil', WHERE WHAT IT READS IS OF BULK AT MOST 1048576: true; the input reads as it did. -/
def fnDiskSpoilUptoRow : OpenClaim := { program := "ytadgknkheachaaa", sum := "61abc7d21fa4441620116522fd1ce15e78358645097feb4c2653e61060693c7e", func := "loop.example/poolfiles/laws.FnDiskSpoil", spec := "fnDiskSpoil", apart := false, narrowed := true }
def FnDiskSpoilUptoSaid : Prop := fnDiskSpoilUptoRow.holds Try.pinned (OpenSpec.upto fnDiskSpoilSpec)

/-- 'laws.FnDiskLose', WHERE WHAT IT READS IS OF BULK AT MOST 1048576: true; the input reads as it did. -/
def fnDiskLoseUptoRow : OpenClaim := { program := "ytadgknkheachaaa", sum := "61abc7d21fa4441620116522fd1ce15e78358645097feb4c2653e61060693c7e", func := "loop.example/poolfiles/laws.FnDiskLose", spec := "fnDiskLose", unfollowed := true, recurses := true, apart := false, narrowed := true }
def FnDiskLoseUptoSaid : Prop := fnDiskLoseUptoRow.holds Try.pinned (OpenSpec.upto fnDiskLoseSpec)

/-- 'laws.FnDiskLast', WHERE WHAT IT READS IS OF BULK AT MOST 1048576: true; the input reads as it did. -/
def fnDiskLastUptoRow : OpenClaim := { program := "ytadgknkheachaaa", sum := "61abc7d21fa4441620116522fd1ce15e78358645097feb4c2653e61060693c7e", func := "loop.example/poolfiles/laws.FnDiskLast", spec := "fnDiskLast", unfollowed := true, recurses := true, apart := false, narrowed := true }
def FnDiskLastUptoSaid : Prop := fnDiskLastUptoRow.holds Try.pinned (OpenSpec.upto fnDiskLastSpec)

/-- 'laws.FnDiskOrder', WHERE WHAT IT READS IS OF BULK AT MOST 1048576: true; the input reads as it did. -/
def fnDiskOrderUptoRow : OpenClaim := { program := "ytadgknkheachaaa", sum := "61abc7d21fa4441620116522fd1ce15e78358645097feb4c2653e61060693c7e", func := "loop.example/poolfiles/laws.FnDiskOrder", spec := "fnDiskOrder", apart := false, narrowed := true }
def FnDiskOrderUptoSaid : Prop := fnDiskOrderUptoRow.holds Try.pinned (OpenSpec.upto fnDiskOrderSpec)

/-- 'laws.FnDiskTorn', WHERE WHAT IT READS IS OF BULK AT MOST 1048576: true; the input reads as it did. -/
def fnDiskTornUptoRow : OpenClaim := { program := "ytadgknkheachaaa", sum := "61abc7d21fa4441620116522fd1ce15e78358645097feb4c2653e61060693c7e", func := "loop.example/poolfiles/laws.FnDiskTorn", spec := "fnDiskTorn", apart := false, narrowed := true }
def FnDiskTornUptoSaid : Prop := fnDiskTornUptoRow.holds Try.pinned (OpenSpec.upto fnDiskTornSpec)

end Rows
end Go.Proofs.Ytadgknkheachaaa
