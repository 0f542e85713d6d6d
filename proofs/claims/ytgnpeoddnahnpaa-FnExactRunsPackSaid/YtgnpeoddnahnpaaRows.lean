/-
  No cell of these rows narrows 'for every input' (looked for: loops, veiled, ifaces, maps, wideKeys, modest, calm, conditions, laid).
  DERIVED. THE GIVEN ROWS OF THIS SEAT. 6 by the template 'for every input the law returns true; each argument reads behind the call as it read before'; 0 by the template 'total and deterministic' (their statements: YtgnpeoddnahnpaaTotals.lean).
  GIVEN WITH THE SEED: the statements are not yours to turn. If you find one false, say at which input.
  Laid BY PROGRAM, IN A SANDBOX (cutbox-rows.mjs): the forced cells as the released guide's own fill.sh prints them over the translation f13fa31d055a148a… (all of the seat's roots in one cut). By AI agents, Wed Nov 11 2026. No macro, syntax, notation, axiom, sorry.
-/
import Derived.Test.YtgnpeoddnahnpaaChecked
import GoSem.Claim
import GoSem.ClaimJoined
import GoSem.ClaimMapViews
import Derived.JoinedTies
import Derived.KernelRfl
namespace Go.Proofs.Ytgnpeoddnahnpaa
/- THE CELL 'sum', in the pinned program and in every row, IS THE sha256 OF THE DUMP (.gsa) THAT YtgnpeoddnahnpaaProg.lean LOADS. Nothing in Lean hashes anything: it is a label: what it is worth is what the hold of that sum in a sandbox is worth. -/
noncomputable def Try.pinned : Pinned := { name := "ytgnpeoddnahnpaa", sum := "f13fa31d055a148aff80fffd7ad51ba2c0f3ca3a30a106243c1cc83de7f22cb1", checked := Try.checked }
namespace Rows
def none {H : Type} : Left H := { results := [], args := [] }

/-- 'laws.FnExactSumOf': WHATEVER THE INPUT: true; the input reads as it did. -/
def fnExactSumOfSpec : ChangeSpec := { name := "fnExactSumOf", fn := fun _ => fun
  | [d] => { results := [.lit (.bool true)], args := [d] }
  | _ => none }
def fnExactSumOfRow : OpenClaim := { program := "ytgnpeoddnahnpaa", sum := "f13fa31d055a148aff80fffd7ad51ba2c0f3ca3a30a106243c1cc83de7f22cb1", func := "loop.example/poolfiles/laws.FnExactSumOf", spec := "fnExactSumOf", apart := false }
def FnExactSumOfSaid : Prop := fnExactSumOfRow.holds Try.pinned (OpenSpec.ofChange fnExactSumOfSpec)

/-- ITS FALSE NEIGHBOUR: 'it returns false'. Refute it at one input. -/
def fnExactSumOfWrong : ChangeSpec := { name := "fnExactSumOf", fn := fun _ => fun
  | [d] => { results := [.lit (.bool false)], args := [d] }
  | _ => none }
def FnExactSumOfWrongFalsely : Prop := fnExactSumOfRow.holds Try.pinned (OpenSpec.ofChange fnExactSumOfWrong)

/-- 'laws.FnExactRunsPack': WHATEVER THE INPUT: true; the input reads as it did. -/
def fnExactRunsPackSpec : ChangeSpec := { name := "fnExactRunsPack", fn := fun _ => fun
  | [d] => { results := [.lit (.bool true)], args := [d] }
  | _ => none }
def fnExactRunsPackRow : OpenClaim := { program := "ytgnpeoddnahnpaa", sum := "f13fa31d055a148aff80fffd7ad51ba2c0f3ca3a30a106243c1cc83de7f22cb1", func := "loop.example/poolfiles/laws.FnExactRunsPack", spec := "fnExactRunsPack", unfollowed := true, recurses := true, apart := false }
def FnExactRunsPackSaid : Prop := fnExactRunsPackRow.holds Try.pinned (OpenSpec.ofChange fnExactRunsPackSpec)

/-- ITS FALSE NEIGHBOUR: 'it returns false'. Refute it at one input. -/
def fnExactRunsPackWrong : ChangeSpec := { name := "fnExactRunsPack", fn := fun _ => fun
  | [d] => { results := [.lit (.bool false)], args := [d] }
  | _ => none }
def FnExactRunsPackWrongFalsely : Prop := fnExactRunsPackRow.holds Try.pinned (OpenSpec.ofChange fnExactRunsPackWrong)

/-- 'laws.FnExactRunsOpen': WHATEVER THE INPUT: true; the input reads as it did. -/
def fnExactRunsOpenSpec : ChangeSpec := { name := "fnExactRunsOpen", fn := fun _ => fun
  | [d] => { results := [.lit (.bool true)], args := [d] }
  | _ => none }
def fnExactRunsOpenRow : OpenClaim := { program := "ytgnpeoddnahnpaa", sum := "f13fa31d055a148aff80fffd7ad51ba2c0f3ca3a30a106243c1cc83de7f22cb1", func := "loop.example/poolfiles/laws.FnExactRunsOpen", spec := "fnExactRunsOpen", unfollowed := true, recurses := true, apart := false }
def FnExactRunsOpenSaid : Prop := fnExactRunsOpenRow.holds Try.pinned (OpenSpec.ofChange fnExactRunsOpenSpec)

/-- ITS FALSE NEIGHBOUR: 'it returns false'. Refute it at one input. -/
def fnExactRunsOpenWrong : ChangeSpec := { name := "fnExactRunsOpen", fn := fun _ => fun
  | [d] => { results := [.lit (.bool false)], args := [d] }
  | _ => none }
def FnExactRunsOpenWrongFalsely : Prop := fnExactRunsOpenRow.holds Try.pinned (OpenSpec.ofChange fnExactRunsOpenWrong)

/-- 'laws.FnSumOf': WHATEVER THE INPUT: true; the input reads as it did. -/
def fnSumOfSpec : ChangeSpec := { name := "fnSumOf", fn := fun _ => fun
  | [d1, d2] => { results := [.lit (.bool true)], args := [d1, d2] }
  | _ => none }
def fnSumOfRow : OpenClaim := { program := "ytgnpeoddnahnpaa", sum := "f13fa31d055a148aff80fffd7ad51ba2c0f3ca3a30a106243c1cc83de7f22cb1", func := "loop.example/poolfiles/laws.FnSumOf", spec := "fnSumOf", apart := false }
def FnSumOfSaid : Prop := fnSumOfRow.holds Try.pinned (OpenSpec.ofChange fnSumOfSpec)

/-- ITS FALSE NEIGHBOUR: 'it returns false'. Refute it at one input. -/
def fnSumOfWrong : ChangeSpec := { name := "fnSumOf", fn := fun _ => fun
  | [d1, d2] => { results := [.lit (.bool false)], args := [d1, d2] }
  | _ => none }
def FnSumOfWrongFalsely : Prop := fnSumOfRow.holds Try.pinned (OpenSpec.ofChange fnSumOfWrong)

/-- 'laws.FnRunsPack': WHATEVER THE INPUT: true; the input reads as it did. -/
def fnRunsPackSpec : ChangeSpec := { name := "fnRunsPack", fn := fun _ => fun
  | [d] => { results := [.lit (.bool true)], args := [d] }
  | _ => none }
def fnRunsPackRow : OpenClaim := { program := "ytgnpeoddnahnpaa", sum := "f13fa31d055a148aff80fffd7ad51ba2c0f3ca3a30a106243c1cc83de7f22cb1", func := "loop.example/poolfiles/laws.FnRunsPack", spec := "fnRunsPack", unfollowed := true, recurses := true, apart := false }
def FnRunsPackSaid : Prop := fnRunsPackRow.holds Try.pinned (OpenSpec.ofChange fnRunsPackSpec)

/-- ITS FALSE NEIGHBOUR: 'it returns false'. Refute it at one input. -/
def fnRunsPackWrong : ChangeSpec := { name := "fnRunsPack", fn := fun _ => fun
  | [d] => { results := [.lit (.bool false)], args := [d] }
  | _ => none }
def FnRunsPackWrongFalsely : Prop := fnRunsPackRow.holds Try.pinned (OpenSpec.ofChange fnRunsPackWrong)

/-- 'laws.FnRunsOpen': WHATEVER THE INPUT: true; the input reads as it did. -/
def fnRunsOpenSpec : ChangeSpec := { name := "fnRunsOpen", fn := fun _ => fun
  | [d] => { results := [.lit (.bool true)], args := [d] }
  | _ => none }
def fnRunsOpenRow : OpenClaim := { program := "ytgnpeoddnahnpaa", sum := "f13fa31d055a148aff80fffd7ad51ba2c0f3ca3a30a106243c1cc83de7f22cb1", func := "loop.example/poolfiles/laws.FnRunsOpen", spec := "fnRunsOpen", unfollowed := true, recurses := true, apart := false }
def FnRunsOpenSaid : Prop := fnRunsOpenRow.holds Try.pinned (OpenSpec.ofChange fnRunsOpenSpec)

/-- ITS FALSE NEIGHBOUR: 'it returns false'. Refute it at one input. -/
def fnRunsOpenWrong : ChangeSpec := { name := "fnRunsOpen", fn := fun _ => fun
  | [d] => { results := [.lit (.bool false)], args := [d] }
  | _ => none }
def FnRunsOpenWrongFalsely : Prop := fnRunsOpenRow.holds Try.pinned (OpenSpec.ofChange fnRunsOpenWrong)

/- THE SECOND FORM. 'bulk': how many values and letters a reading holds, each counted each time it is reached (what is shared counts as often as it is met; a slice's spare places count too). A statement '..UptoSaid' is the law's where the arguments, and the package variables that the reading takes, are together of bulk at most 1048576: NARROWER than '..Said'. Prove '..Said' where nothing that the law and all that it calls make is longer than what came in: it says more and counts as full. Else prove '..UptoSaid'. A law counts once. -/
mutual
def uptoBulk {H : Type} : DataW H → Nat
  | .lit (.string bytes) => bytes.length + 1
  | .lit _ => 1
  | .nil => 1
  | .ptr d => uptoBulk d + 1
  | .slice elems spare => uptoBulkAll elems + uptoBulkAll spare + 1
  | .agg parts => uptoBulkAll parts + 1
  | .iface _ d => uptoBulk d + 1
  | .map entries => uptoBulkEntries entries + 1
  | .held _ => 1
def uptoBulkAll {H : Type} : List (DataW H) → Nat
  | [] => 0
  | d :: r => uptoBulk d + uptoBulkAll r
def uptoBulkEntries {H : Type} : List (Lit × DataW H) → Nat
  | [] => 0
  | x :: r => uptoBulkEntry x + uptoBulkEntries r
def uptoBulkEntry {H : Type} : Lit × DataW H → Nat
  | (.string bytes, d) => bytes.length + uptoBulk d + 1
  | (_, d) => uptoBulk d + 1
 end
def uptoSmall : (H : Type) → List (DataW H) → Bool := fun _ ds => decide (uptoBulkAll ds ≤ 1048576)
def OpenSpec.upto (s : _root_.Go.ChangeSpec) : _root_.Go.OpenSpec := { _root_.Go.OpenSpec.ofChange s with cond := some uptoSmall }

/-- 'laws.FnExactSumOf', WHERE WHAT IT READS IS OF BULK AT MOST 1048576: true; the input reads as it did. -/
def fnExactSumOfUptoRow : OpenClaim := { program := "ytgnpeoddnahnpaa", sum := "f13fa31d055a148aff80fffd7ad51ba2c0f3ca3a30a106243c1cc83de7f22cb1", func := "loop.example/poolfiles/laws.FnExactSumOf", spec := "fnExactSumOf", apart := false, narrowed := true }
def FnExactSumOfUptoSaid : Prop := fnExactSumOfUptoRow.holds Try.pinned (OpenSpec.upto fnExactSumOfSpec)

/-- 'laws.FnExactRunsPack', WHERE WHAT IT READS IS OF BULK AT MOST 1048576: true; the input reads as it did. -/
def fnExactRunsPackUptoRow : OpenClaim := { program := "ytgnpeoddnahnpaa", sum := "f13fa31d055a148aff80fffd7ad51ba2c0f3ca3a30a106243c1cc83de7f22cb1", func := "loop.example/poolfiles/laws.FnExactRunsPack", spec := "fnExactRunsPack", unfollowed := true, recurses := true, apart := false, narrowed := true }
def FnExactRunsPackUptoSaid : Prop := fnExactRunsPackUptoRow.holds Try.pinned (OpenSpec.upto fnExactRunsPackSpec)

/-- 'laws.FnExactRunsOpen', WHERE WHAT IT READS IS OF BULK AT MOST 1048576: true; the input reads as it did. -/
def fnExactRunsOpenUptoRow : OpenClaim := { program := "ytgnpeoddnahnpaa", sum := "f13fa31d055a148aff80fffd7ad51ba2c0f3ca3a30a106243c1cc83de7f22cb1", func := "loop.example/poolfiles/laws.FnExactRunsOpen", spec := "fnExactRunsOpen", unfollowed := true, recurses := true, apart := false, narrowed := true }
def FnExactRunsOpenUptoSaid : Prop := fnExactRunsOpenUptoRow.holds Try.pinned (OpenSpec.upto fnExactRunsOpenSpec)

/-- 'laws.FnSumOf', WHERE WHAT IT READS IS OF BULK AT MOST 1048576: true; the input reads as it did. -/
def fnSumOfUptoRow : OpenClaim := { program := "ytgnpeoddnahnpaa", sum := "f13fa31d055a148aff80fffd7ad51ba2c0f3ca3a30a106243c1cc83de7f22cb1", func := "loop.example/poolfiles/laws.FnSumOf", spec := "fnSumOf", apart := false, narrowed := true }
def FnSumOfUptoSaid : Prop := fnSumOfUptoRow.holds Try.pinned (OpenSpec.upto fnSumOfSpec)

/-- 'laws.FnRunsPack', WHERE WHAT IT READS IS OF BULK AT MOST 1048576: true; the input reads as it did. -/
def fnRunsPackUptoRow : OpenClaim := { program := "ytgnpeoddnahnpaa", sum := "f13fa31d055a148aff80fffd7ad51ba2c0f3ca3a30a106243c1cc83de7f22cb1", func := "loop.example/poolfiles/laws.FnRunsPack", spec := "fnRunsPack", unfollowed := true, recurses := true, apart := false, narrowed := true }
def FnRunsPackUptoSaid : Prop := fnRunsPackUptoRow.holds Try.pinned (OpenSpec.upto fnRunsPackSpec)

/-- 'laws.FnRunsOpen', WHERE WHAT IT READS IS OF BULK AT MOST 1048576: true; the input reads as it did. -/
def fnRunsOpenUptoRow : OpenClaim := { program := "ytgnpeoddnahnpaa", sum := "f13fa31d055a148aff80fffd7ad51ba2c0f3ca3a30a106243c1cc83de7f22cb1", func := "loop.example/poolfiles/laws.FnRunsOpen", spec := "fnRunsOpen", unfollowed := true, recurses := true, apart := false, narrowed := true }
def FnRunsOpenUptoSaid : Prop := fnRunsOpenUptoRow.holds Try.pinned (OpenSpec.upto fnRunsOpenSpec)

end Rows
end Go.Proofs.Ytgnpeoddnahnpaa
