/-
  No cell of these rows narrows 'for every input' (looked for: loops, veiled, ifaces, maps, wideKeys, modest, calm, conditions, laid).
  DERIVED. THE GIVEN ROWS OF THIS SEAT. 6 by the template 'for every input the law returns true; each argument reads behind the call as it read before'; 0 by the template 'total and deterministic' (their statements: YtohfadgbmlfcmaaTotals.lean).
  GIVEN WITH THE SEED: the statements are not yours to turn. If you find one false, say at which input.
  Laid BY PROGRAM, IN A SANDBOX (cutbox-rows.mjs): the forced cells as the released guide's own fill.sh prints them over the translation 37b16468af36bab8… (all of the seat's roots in one cut). By AI agents, Wed Nov 11 2026. No macro, syntax, notation, axiom, sorry.
-/
import Derived.Test.YtohfadgbmlfcmaaChecked
import GoSem.Claim
import GoSem.ClaimJoined
import GoSem.ClaimMapViews
import Derived.JoinedTies
import Derived.KernelRfl
namespace Go.Proofs.Ytohfadgbmlfcmaa
/- THE CELL 'sum', in the pinned program and in every row, IS THE sha256 OF THE DUMP (.gsa) THAT YtohfadgbmlfcmaaProg.lean LOADS. Nothing in Lean hashes anything: it is a label: what it is worth is what the hold of that sum in a sandbox is worth. -/
noncomputable def Try.pinned : Pinned := { name := "ytohfadgbmlfcmaa", sum := "37b16468af36bab81803914b0257501fd0f011756cda764f31be3cfeb9549582", checked := Try.checked }
namespace Rows
def none {H : Type} : Left H := { results := [], args := [] }

/-- 'laws.FnExactStripeCut': WHATEVER THE INPUT: true; the input reads as it did. -/
def fnExactStripeCutSpec : ChangeSpec := { name := "fnExactStripeCut", fn := fun _ => fun
  | [d] => { results := [.lit (.bool true)], args := [d] }
  | _ => none }
def fnExactStripeCutRow : OpenClaim := { program := "ytohfadgbmlfcmaa", sum := "37b16468af36bab81803914b0257501fd0f011756cda764f31be3cfeb9549582", func := "loop.example/poolfiles/laws.FnExactStripeCut", spec := "fnExactStripeCut", unfollowed := true, recurses := true, apart := false }
def FnExactStripeCutSaid : Prop := fnExactStripeCutRow.holds Try.pinned (OpenSpec.ofChange fnExactStripeCutSpec)

/-- ITS FALSE NEIGHBOUR: 'it returns false'. Refute it at one input. -/
def fnExactStripeCutWrong : ChangeSpec := { name := "fnExactStripeCut", fn := fun _ => fun
  | [d] => { results := [.lit (.bool false)], args := [d] }
  | _ => none }
def FnExactStripeCutWrongFalsely : Prop := fnExactStripeCutRow.holds Try.pinned (OpenSpec.ofChange fnExactStripeCutWrong)

/-- 'laws.FnExactStripeJoin': WHATEVER THE INPUT: true; the input reads as it did. -/
def fnExactStripeJoinSpec : ChangeSpec := { name := "fnExactStripeJoin", fn := fun _ => fun
  | [d1, d2, d3] => { results := [.lit (.bool true)], args := [d1, d2, d3] }
  | _ => none }
def fnExactStripeJoinRow : OpenClaim := { program := "ytohfadgbmlfcmaa", sum := "37b16468af36bab81803914b0257501fd0f011756cda764f31be3cfeb9549582", func := "loop.example/poolfiles/laws.FnExactStripeJoin", spec := "fnExactStripeJoin", unfollowed := true, recurses := true, apart := false }
def FnExactStripeJoinSaid : Prop := fnExactStripeJoinRow.holds Try.pinned (OpenSpec.ofChange fnExactStripeJoinSpec)

/-- ITS FALSE NEIGHBOUR: 'it returns false'. Refute it at one input. -/
def fnExactStripeJoinWrong : ChangeSpec := { name := "fnExactStripeJoin", fn := fun _ => fun
  | [d1, d2, d3] => { results := [.lit (.bool false)], args := [d1, d2, d3] }
  | _ => none }
def FnExactStripeJoinWrongFalsely : Prop := fnExactStripeJoinRow.holds Try.pinned (OpenSpec.ofChange fnExactStripeJoinWrong)

/-- 'laws.FnExactStripeWhole': WHATEVER THE INPUT: true; the input reads as it did. -/
def fnExactStripeWholeSpec : ChangeSpec := { name := "fnExactStripeWhole", fn := fun _ => fun
  | [d1, d2] => { results := [.lit (.bool true)], args := [d1, d2] }
  | _ => none }
def fnExactStripeWholeRow : OpenClaim := { program := "ytohfadgbmlfcmaa", sum := "37b16468af36bab81803914b0257501fd0f011756cda764f31be3cfeb9549582", func := "loop.example/poolfiles/laws.FnExactStripeWhole", spec := "fnExactStripeWhole", unfollowed := true, recurses := true, apart := false }
def FnExactStripeWholeSaid : Prop := fnExactStripeWholeRow.holds Try.pinned (OpenSpec.ofChange fnExactStripeWholeSpec)

/-- ITS FALSE NEIGHBOUR: 'it returns false'. Refute it at one input. -/
def fnExactStripeWholeWrong : ChangeSpec := { name := "fnExactStripeWhole", fn := fun _ => fun
  | [d1, d2] => { results := [.lit (.bool false)], args := [d1, d2] }
  | _ => none }
def FnExactStripeWholeWrongFalsely : Prop := fnExactStripeWholeRow.holds Try.pinned (OpenSpec.ofChange fnExactStripeWholeWrong)

/-- 'laws.FnStripeCut': WHATEVER THE INPUT: true; the input reads as it did. -/
def fnStripeCutSpec : ChangeSpec := { name := "fnStripeCut", fn := fun _ => fun
  | [d] => { results := [.lit (.bool true)], args := [d] }
  | _ => none }
def fnStripeCutRow : OpenClaim := { program := "ytohfadgbmlfcmaa", sum := "37b16468af36bab81803914b0257501fd0f011756cda764f31be3cfeb9549582", func := "loop.example/poolfiles/laws.FnStripeCut", spec := "fnStripeCut", unfollowed := true, recurses := true, apart := false }
def FnStripeCutSaid : Prop := fnStripeCutRow.holds Try.pinned (OpenSpec.ofChange fnStripeCutSpec)

/-- ITS FALSE NEIGHBOUR: 'it returns false'. Refute it at one input. -/
def fnStripeCutWrong : ChangeSpec := { name := "fnStripeCut", fn := fun _ => fun
  | [d] => { results := [.lit (.bool false)], args := [d] }
  | _ => none }
def FnStripeCutWrongFalsely : Prop := fnStripeCutRow.holds Try.pinned (OpenSpec.ofChange fnStripeCutWrong)

/-- 'laws.FnStripeJoin': WHATEVER THE INPUT: true; the input reads as it did. -/
def fnStripeJoinSpec : ChangeSpec := { name := "fnStripeJoin", fn := fun _ => fun
  | [d] => { results := [.lit (.bool true)], args := [d] }
  | _ => none }
def fnStripeJoinRow : OpenClaim := { program := "ytohfadgbmlfcmaa", sum := "37b16468af36bab81803914b0257501fd0f011756cda764f31be3cfeb9549582", func := "loop.example/poolfiles/laws.FnStripeJoin", spec := "fnStripeJoin", unfollowed := true, recurses := true, apart := false }
def FnStripeJoinSaid : Prop := fnStripeJoinRow.holds Try.pinned (OpenSpec.ofChange fnStripeJoinSpec)

/-- ITS FALSE NEIGHBOUR: 'it returns false'. Refute it at one input. -/
def fnStripeJoinWrong : ChangeSpec := { name := "fnStripeJoin", fn := fun _ => fun
  | [d] => { results := [.lit (.bool false)], args := [d] }
  | _ => none }
def FnStripeJoinWrongFalsely : Prop := fnStripeJoinRow.holds Try.pinned (OpenSpec.ofChange fnStripeJoinWrong)

/-- 'laws.FnStripeWhole': WHATEVER THE INPUT: true; the input reads as it did. -/
def fnStripeWholeSpec : ChangeSpec := { name := "fnStripeWhole", fn := fun _ => fun
  | [d] => { results := [.lit (.bool true)], args := [d] }
  | _ => none }
def fnStripeWholeRow : OpenClaim := { program := "ytohfadgbmlfcmaa", sum := "37b16468af36bab81803914b0257501fd0f011756cda764f31be3cfeb9549582", func := "loop.example/poolfiles/laws.FnStripeWhole", spec := "fnStripeWhole", unfollowed := true, recurses := true, apart := false }
def FnStripeWholeSaid : Prop := fnStripeWholeRow.holds Try.pinned (OpenSpec.ofChange fnStripeWholeSpec)

/-- ITS FALSE NEIGHBOUR: 'it returns false'. Refute it at one input. -/
def fnStripeWholeWrong : ChangeSpec := { name := "fnStripeWhole", fn := fun _ => fun
  | [d] => { results := [.lit (.bool false)], args := [d] }
  | _ => none }
def FnStripeWholeWrongFalsely : Prop := fnStripeWholeRow.holds Try.pinned (OpenSpec.ofChange fnStripeWholeWrong)

/- THE SECOND FORM. 'bulk': how many values and letters a reading holds, each counted each time it is reached (what is shared counts as often as it is met; a slice's spare places count too). A statement '..UptoSaid' is the law's where the arguments, and the package variables that the reading takes, are together of bulk at most 1048576: NARROWER than '..Said'. Prove '..Said' where nothing that the law and all that it calls make is longer than what came in: it says more and counts as full. Else prove '..UptoSaid'. A law counts once. -/
mutual
def uptoBulk {H : Type} : DataW H → Nat
  | .lit (.string bytes) => bytes.length + 1
  | .lit _ => 1
  | .nil => 1
  | .ptr d => uptoBulk d + 1
  | .slice elems spare => uptoBulkAll elems + uptoBulkAll spare + 1
  | .agg parts => uptoBulkAll parts + 1
  | .iface _ d => uptoBulk d + 1
  | .map entries => uptoBulkEntries entries + 1
  | .held _ => 1
def uptoBulkAll {H : Type} : List (DataW H) → Nat
  | [] => 0
  | d :: r => uptoBulk d + uptoBulkAll r
def uptoBulkEntries {H : Type} : List (Lit × DataW H) → Nat
  | [] => 0
  | x :: r => uptoBulkEntry x + uptoBulkEntries r
def uptoBulkEntry {H : Type} : Lit × DataW H → Nat
  | (.string bytes, d) => bytes.length + uptoBulk d + 1
  | (_, d) => uptoBulk d + 1
 end
def uptoSmall : (H : Type) → List (DataW H) → Bool := fun _ ds => decide (uptoBulkAll ds ≤ 1048576)
def OpenSpec.upto (s : _root_.Go.ChangeSpec) : _root_.Go.OpenSpec := { _root_.Go.OpenSpec.ofChange s with cond := some uptoSmall }

/-- 'laws.FnExactStripeCut', WHERE WHAT IT READS IS OF BULK AT MOST 1048576: true; the input reads as it did. -/
def fnExactStripeCutUptoRow : OpenClaim := { program := "ytohfadgbmlfcmaa", sum := "37b16468af36bab81803914b0257501fd0f011756cda764f31be3cfeb9549582", func := "loop.example/poolfiles/laws.FnExactStripeCut", spec := "fnExactStripeCut", unfollowed := true, recurses := true, apart := false, narrowed := true }
def FnExactStripeCutUptoSaid : Prop := fnExactStripeCutUptoRow.holds Try.pinned (OpenSpec.upto fnExactStripeCutSpec)

/-- 'laws.FnExactStripeJoin', WHERE WHAT IT READS IS OF BULK AT MOST 1048576: true; the input reads as it did. -/
def fnExactStripeJoinUptoRow : OpenClaim := { program := "ytohfadgbmlfcmaa", sum := "37b16468af36bab81803914b0257501fd0f011756cda764f31be3cfeb9549582", func := "loop.example/poolfiles/laws.FnExactStripeJoin", spec := "fnExactStripeJoin", unfollowed := true, recurses := true, apart := false, narrowed := true }
def FnExactStripeJoinUptoSaid : Prop := fnExactStripeJoinUptoRow.holds Try.pinned (OpenSpec.upto fnExactStripeJoinSpec)

/-- 'laws.FnExactStripeWhole', WHERE WHAT IT READS IS OF BULK AT MOST 1048576: true; the input reads as it did. -/
def fnExactStripeWholeUptoRow : OpenClaim := { program := "ytohfadgbmlfcmaa", sum := "37b16468af36bab81803914b0257501fd0f011756cda764f31be3cfeb9549582", func := "loop.example/poolfiles/laws.FnExactStripeWhole", spec := "fnExactStripeWhole", unfollowed := true, recurses := true, apart := false, narrowed := true }
def FnExactStripeWholeUptoSaid : Prop := fnExactStripeWholeUptoRow.holds Try.pinned (OpenSpec.upto fnExactStripeWholeSpec)

/-- 'laws.FnStripeCut', WHERE WHAT IT READS IS OF BULK AT MOST 1048576: true; the input reads as it did. -/
def fnStripeCutUptoRow : OpenClaim := { program := "ytohfadgbmlfcmaa", sum := "37b16468af36bab81803914b0257501fd0f011756cda764f31be3cfeb9549582", func := "loop.example/poolfiles/laws.FnStripeCut", spec := "fnStripeCut", unfollowed := true, recurses := true, apart := false, narrowed := true }
def FnStripeCutUptoSaid : Prop := fnStripeCutUptoRow.holds Try.pinned (OpenSpec.upto fnStripeCutSpec)

/-- 'laws.FnStripeJoin', WHERE WHAT IT READS IS OF BULK AT MOST 1048576: true; the input reads as it did. -/
def fnStripeJoinUptoRow : OpenClaim := { program := "ytohfadgbmlfcmaa", sum := "37b16468af36bab81803914b0257501fd0f011756cda764f31be3cfeb9549582", func := "loop.example/poolfiles/laws.FnStripeJoin", spec := "fnStripeJoin", unfollowed := true, recurses := true, apart := false, narrowed := true }
def FnStripeJoinUptoSaid : Prop := fnStripeJoinUptoRow.holds Try.pinned (OpenSpec.upto fnStripeJoinSpec)

/-- 'laws.FnStripeWhole', WHERE WHAT IT READS IS OF BULK AT MOST 1048576: true; the input reads as it did. -/
def fnStripeWholeUptoRow : OpenClaim := { program := "ytohfadgbmlfcmaa", sum := "37b16468af36bab81803914b0257501fd0f011756cda764f31be3cfeb9549582", func := "loop.example/poolfiles/laws.FnStripeWhole", spec := "fnStripeWhole", unfollowed := true, recurses := true, apart := false, narrowed := true }
def FnStripeWholeUptoSaid : Prop := fnStripeWholeUptoRow.holds Try.pinned (OpenSpec.upto fnStripeWholeSpec)

end Rows
end Go.Proofs.Ytohfadgbmlfcmaa
