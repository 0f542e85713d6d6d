/-
  NARROWER THAN 'FOR EVERY INPUT', by the rows' own cells (each row's printed sentence says how): FnExactFieldsPut: laid · FnExactFieldsGet: laid · FnExactNumPut: laid · FnExactNumGet: laid · FnFieldsJoin: laid · FnFieldsApart: laid · FnFieldsPut: laid · FnFieldsGet: laid · FnNumPut: laid · FnNumGet: laid.
  DERIVED. THE GIVEN ROWS OF THIS SEAT. 10 by the template 'for every input the law returns true; each argument reads behind the call as it read before'; 0 by the template 'total and deterministic' (their statements: YtgnpeoddnahnpaaDoorTotals.lean).
  GIVEN WITH THE SEED: the statements are not yours to turn. If you find one false, say at which input.
  Laid BY PROGRAM, IN A SANDBOX (cutbox-rows.mjs): the forced cells as the released guide's own fill.sh prints them over the translation a24652b4ca92eb18… (all of the seat's roots in one cut). By AI agents, Wed Nov 11 2026. No macro, syntax, notation, axiom, sorry.
-/
import Derived.Test.YtgnpeoddnahnpaaDoorChecked
import GoSem.Claim
import GoSem.ClaimJoined
import GoSem.ClaimMapViews
import Derived.JoinedTies
import Derived.KernelRfl
namespace Go.Proofs.YtgnpeoddnahnpaaDoor
/- THE CELL 'sum', in the pinned program and in every row, IS THE sha256 OF THE DUMP (.gsa) THAT YtgnpeoddnahnpaaDoorProg.lean LOADS. Nothing in Lean hashes anything: it is a label: what it is worth is what the hold of that sum in a sandbox is worth. -/
noncomputable def Tryd.pinned : Pinned := { name := "ytgnpeoddnahnpaadoor", sum := "a24652b4ca92eb187de665b08909f7e34174cf589b888a0ddb612ddf1d2a41a7", checked := Tryd.checked }
namespace Rows
def none {H : Type} : Left H := { results := [], args := [] }

/- WHAT THE LISTED PACKAGE-LEVEL VARIABLES READ AS WHEN THE CALL BEGINS. Each datum BY PROGRAM (the guide's laid-datum.mjs) off the statement by which the dump's own 'gosem.cut.vars' lays the variable. In a bare row this is a premise. The card (YtgnpeoddnahnpaaDoorCards.lean) ties it to the program's text. -/
def laid_math_bits_deBruijn32tab {H : Type} : DataW H := .agg [.lit (.int .u8 0), .lit (.int .u8 1), .lit (.int .u8 28), .lit (.int .u8 2), .lit (.int .u8 29), .lit (.int .u8 14), .lit (.int .u8 24), .lit (.int .u8 3), .lit (.int .u8 30), .lit (.int .u8 22), .lit (.int .u8 20), .lit (.int .u8 15), .lit (.int .u8 25), .lit (.int .u8 17), .lit (.int .u8 4), .lit (.int .u8 8), .lit (.int .u8 31), .lit (.int .u8 27), .lit (.int .u8 13), .lit (.int .u8 23), .lit (.int .u8 21), .lit (.int .u8 19), .lit (.int .u8 16), .lit (.int .u8 7), .lit (.int .u8 26), .lit (.int .u8 12), .lit (.int .u8 18), .lit (.int .u8 6), .lit (.int .u8 11), .lit (.int .u8 5), .lit (.int .u8 10), .lit (.int .u8 9)]
def laid_math_bits_deBruijn64tab {H : Type} : DataW H := .agg [.lit (.int .u8 0), .lit (.int .u8 1), .lit (.int .u8 56), .lit (.int .u8 2), .lit (.int .u8 57), .lit (.int .u8 49), .lit (.int .u8 28), .lit (.int .u8 3), .lit (.int .u8 61), .lit (.int .u8 58), .lit (.int .u8 42), .lit (.int .u8 50), .lit (.int .u8 38), .lit (.int .u8 29), .lit (.int .u8 17), .lit (.int .u8 4), .lit (.int .u8 62), .lit (.int .u8 47), .lit (.int .u8 59), .lit (.int .u8 36), .lit (.int .u8 45), .lit (.int .u8 43), .lit (.int .u8 51), .lit (.int .u8 22), .lit (.int .u8 53), .lit (.int .u8 39), .lit (.int .u8 33), .lit (.int .u8 30), .lit (.int .u8 24), .lit (.int .u8 18), .lit (.int .u8 12), .lit (.int .u8 5), .lit (.int .u8 63), .lit (.int .u8 55), .lit (.int .u8 48), .lit (.int .u8 27), .lit (.int .u8 60), .lit (.int .u8 41), .lit (.int .u8 37), .lit (.int .u8 16), .lit (.int .u8 46), .lit (.int .u8 35), .lit (.int .u8 44), .lit (.int .u8 21), .lit (.int .u8 52), .lit (.int .u8 32), .lit (.int .u8 23), .lit (.int .u8 11), .lit (.int .u8 54), .lit (.int .u8 26), .lit (.int .u8 40), .lit (.int .u8 15), .lit (.int .u8 34), .lit (.int .u8 20), .lit (.int .u8 31), .lit (.int .u8 10), .lit (.int .u8 25), .lit (.int .u8 14), .lit (.int .u8 19), .lit (.int .u8 9), .lit (.int .u8 13), .lit (.int .u8 8), .lit (.int .u8 7), .lit (.int .u8 6)]
def laid_internal_strconv_uint64pow10 {H : Type} : DataW H := .agg [.lit (.int .u64 1), .lit (.int .u64 10), .lit (.int .u64 100), .lit (.int .u64 1000), .lit (.int .u64 10000), .lit (.int .u64 100000), .lit (.int .u64 1000000), .lit (.int .u64 10000000), .lit (.int .u64 100000000), .lit (.int .u64 1000000000), .lit (.int .u64 10000000000), .lit (.int .u64 100000000000), .lit (.int .u64 1000000000000), .lit (.int .u64 10000000000000), .lit (.int .u64 100000000000000), .lit (.int .u64 1000000000000000), .lit (.int .u64 10000000000000000), .lit (.int .u64 100000000000000000), .lit (.int .u64 1000000000000000000), .lit (.int .u64 10000000000000000000)]
def laid_strconv_ErrRange {H : Type} : DataW H := .iface "*errors.errorString" (.ptr (.agg [.lit (.string [118, 97, 108, 117, 101, 32, 111, 117, 116, 32, 111, 102, 32, 114, 97, 110, 103, 101])]))
def laid_strconv_ErrSyntax {H : Type} : DataW H := .iface "*errors.errorString" (.ptr (.agg [.lit (.string [105, 110, 118, 97, 108, 105, 100, 32, 115, 121, 110, 116, 97, 120])]))

/-- 'laws.FnExactFieldsPut': WHATEVER THE INPUT: true; the input reads as it did. -/
def fnExactFieldsPutSpec : ChangeSpec := { name := "fnExactFieldsPut", fn := fun _ => fun
  | [d] => { results := [.lit (.bool true)], args := [d] }
  | _ => none }
def fnExactFieldsPutRow : OpenClaim := { program := "ytgnpeoddnahnpaadoor", sum := "a24652b4ca92eb187de665b08909f7e34174cf589b888a0ddb612ddf1d2a41a7", func := "loop.example/poolfiles/laws.FnExactFieldsPut", spec := "fnExactFieldsPut", recurses := true, named := ["internal/strconv.uint64pow10", "math/bits.deBruijn32tab", "math/bits.deBruijn64tab"], apart := false, laid := [("math/bits.deBruijn32tab", laid_math_bits_deBruijn32tab), ("math/bits.deBruijn64tab", laid_math_bits_deBruijn64tab), ("internal/strconv.uint64pow10", laid_internal_strconv_uint64pow10)] }
def FnExactFieldsPutSaid : Prop := fnExactFieldsPutRow.holds Tryd.pinned (OpenSpec.ofChange fnExactFieldsPutSpec)

/-- ITS FALSE NEIGHBOUR: 'it returns false'. Refute it at one input. -/
def fnExactFieldsPutWrong : ChangeSpec := { name := "fnExactFieldsPut", fn := fun _ => fun
  | [d] => { results := [.lit (.bool false)], args := [d] }
  | _ => none }
def FnExactFieldsPutWrongFalsely : Prop := fnExactFieldsPutRow.holds Tryd.pinned (OpenSpec.ofChange fnExactFieldsPutWrong)

/-- 'laws.FnExactFieldsGet': WHATEVER THE INPUT: true; the input reads as it did. -/
def fnExactFieldsGetSpec : ChangeSpec := { name := "fnExactFieldsGet", fn := fun _ => fun
  | [d] => { results := [.lit (.bool true)], args := [d] }
  | _ => none }
def fnExactFieldsGetRow : OpenClaim := { program := "ytgnpeoddnahnpaadoor", sum := "a24652b4ca92eb187de665b08909f7e34174cf589b888a0ddb612ddf1d2a41a7", func := "loop.example/poolfiles/laws.FnExactFieldsGet", spec := "fnExactFieldsGet", inPlace := ["internal/bytealg.IndexByteString", "internal/bytealg.IndexString"], recurses := true, named := ["internal/bytealg.MaxLen", "strconv.ErrSyntax", "strconv.ErrRange", "internal/strconv.uint64pow10", "math/bits.deBruijn32tab", "math/bits.deBruijn64tab"], apart := false, laid := [("math/bits.deBruijn32tab", laid_math_bits_deBruijn32tab), ("math/bits.deBruijn64tab", laid_math_bits_deBruijn64tab), ("internal/strconv.uint64pow10", laid_internal_strconv_uint64pow10), ("strconv.ErrRange", laid_strconv_ErrRange), ("strconv.ErrSyntax", laid_strconv_ErrSyntax)] }
def FnExactFieldsGetSaid : Prop := fnExactFieldsGetRow.holds Tryd.pinned (OpenSpec.ofChange fnExactFieldsGetSpec)

/-- ITS FALSE NEIGHBOUR: 'it returns false'. Refute it at one input. -/
def fnExactFieldsGetWrong : ChangeSpec := { name := "fnExactFieldsGet", fn := fun _ => fun
  | [d] => { results := [.lit (.bool false)], args := [d] }
  | _ => none }
def FnExactFieldsGetWrongFalsely : Prop := fnExactFieldsGetRow.holds Tryd.pinned (OpenSpec.ofChange fnExactFieldsGetWrong)

/-- 'laws.FnExactNumPut': WHATEVER THE INPUT: true; the input reads as it did. -/
def fnExactNumPutSpec : ChangeSpec := { name := "fnExactNumPut", fn := fun _ => fun
  | [d] => { results := [.lit (.bool true)], args := [d] }
  | _ => none }
def fnExactNumPutRow : OpenClaim := { program := "ytgnpeoddnahnpaadoor", sum := "a24652b4ca92eb187de665b08909f7e34174cf589b888a0ddb612ddf1d2a41a7", func := "loop.example/poolfiles/laws.FnExactNumPut", spec := "fnExactNumPut", recurses := true, named := ["internal/strconv.uint64pow10", "math/bits.deBruijn32tab", "math/bits.deBruijn64tab"], apart := false, laid := [("math/bits.deBruijn32tab", laid_math_bits_deBruijn32tab), ("math/bits.deBruijn64tab", laid_math_bits_deBruijn64tab), ("internal/strconv.uint64pow10", laid_internal_strconv_uint64pow10)] }
def FnExactNumPutSaid : Prop := fnExactNumPutRow.holds Tryd.pinned (OpenSpec.ofChange fnExactNumPutSpec)

/-- ITS FALSE NEIGHBOUR: 'it returns false'. Refute it at one input. -/
def fnExactNumPutWrong : ChangeSpec := { name := "fnExactNumPut", fn := fun _ => fun
  | [d] => { results := [.lit (.bool false)], args := [d] }
  | _ => none }
def FnExactNumPutWrongFalsely : Prop := fnExactNumPutRow.holds Tryd.pinned (OpenSpec.ofChange fnExactNumPutWrong)

/-- 'laws.FnExactNumGet': WHATEVER THE INPUT: true; the input reads as it did. -/
def fnExactNumGetSpec : ChangeSpec := { name := "fnExactNumGet", fn := fun _ => fun
  | [d] => { results := [.lit (.bool true)], args := [d] }
  | _ => none }
def fnExactNumGetRow : OpenClaim := { program := "ytgnpeoddnahnpaadoor", sum := "a24652b4ca92eb187de665b08909f7e34174cf589b888a0ddb612ddf1d2a41a7", func := "loop.example/poolfiles/laws.FnExactNumGet", spec := "fnExactNumGet", named := ["strconv.ErrSyntax", "strconv.ErrRange", "internal/strconv.uint64pow10", "math/bits.deBruijn32tab", "math/bits.deBruijn64tab"], apart := false, laid := [("math/bits.deBruijn32tab", laid_math_bits_deBruijn32tab), ("math/bits.deBruijn64tab", laid_math_bits_deBruijn64tab), ("internal/strconv.uint64pow10", laid_internal_strconv_uint64pow10), ("strconv.ErrRange", laid_strconv_ErrRange), ("strconv.ErrSyntax", laid_strconv_ErrSyntax)] }
def FnExactNumGetSaid : Prop := fnExactNumGetRow.holds Tryd.pinned (OpenSpec.ofChange fnExactNumGetSpec)

/-- ITS FALSE NEIGHBOUR: 'it returns false'. Refute it at one input. -/
def fnExactNumGetWrong : ChangeSpec := { name := "fnExactNumGet", fn := fun _ => fun
  | [d] => { results := [.lit (.bool false)], args := [d] }
  | _ => none }
def FnExactNumGetWrongFalsely : Prop := fnExactNumGetRow.holds Tryd.pinned (OpenSpec.ofChange fnExactNumGetWrong)

/-- 'laws.FnFieldsJoin': WHATEVER THE INPUT: true; the input reads as it did. -/
def fnFieldsJoinSpec : ChangeSpec := { name := "fnFieldsJoin", fn := fun _ => fun
  | [d1, d2] => { results := [.lit (.bool true)], args := [d1, d2] }
  | _ => none }
def fnFieldsJoinRow : OpenClaim := { program := "ytgnpeoddnahnpaadoor", sum := "a24652b4ca92eb187de665b08909f7e34174cf589b888a0ddb612ddf1d2a41a7", func := "loop.example/poolfiles/laws.FnFieldsJoin", spec := "fnFieldsJoin", recurses := true, named := ["internal/strconv.uint64pow10", "math/bits.deBruijn32tab", "math/bits.deBruijn64tab"], apart := false, laid := [("math/bits.deBruijn32tab", laid_math_bits_deBruijn32tab), ("math/bits.deBruijn64tab", laid_math_bits_deBruijn64tab), ("internal/strconv.uint64pow10", laid_internal_strconv_uint64pow10)] }
def FnFieldsJoinSaid : Prop := fnFieldsJoinRow.holds Tryd.pinned (OpenSpec.ofChange fnFieldsJoinSpec)

/-- ITS FALSE NEIGHBOUR: 'it returns false'. Refute it at one input. -/
def fnFieldsJoinWrong : ChangeSpec := { name := "fnFieldsJoin", fn := fun _ => fun
  | [d1, d2] => { results := [.lit (.bool false)], args := [d1, d2] }
  | _ => none }
def FnFieldsJoinWrongFalsely : Prop := fnFieldsJoinRow.holds Tryd.pinned (OpenSpec.ofChange fnFieldsJoinWrong)

/-- 'laws.FnFieldsApart': WHATEVER THE INPUT: true; the input reads as it did. -/
def fnFieldsApartSpec : ChangeSpec := { name := "fnFieldsApart", fn := fun _ => fun
  | [d1, d2] => { results := [.lit (.bool true)], args := [d1, d2] }
  | _ => none }
def fnFieldsApartRow : OpenClaim := { program := "ytgnpeoddnahnpaadoor", sum := "a24652b4ca92eb187de665b08909f7e34174cf589b888a0ddb612ddf1d2a41a7", func := "loop.example/poolfiles/laws.FnFieldsApart", spec := "fnFieldsApart", recurses := true, named := ["internal/strconv.uint64pow10", "math/bits.deBruijn32tab", "math/bits.deBruijn64tab"], apart := false, laid := [("math/bits.deBruijn32tab", laid_math_bits_deBruijn32tab), ("math/bits.deBruijn64tab", laid_math_bits_deBruijn64tab), ("internal/strconv.uint64pow10", laid_internal_strconv_uint64pow10)] }
def FnFieldsApartSaid : Prop := fnFieldsApartRow.holds Tryd.pinned (OpenSpec.ofChange fnFieldsApartSpec)

/-- ITS FALSE NEIGHBOUR: 'it returns false'. Refute it at one input. -/
def fnFieldsApartWrong : ChangeSpec := { name := "fnFieldsApart", fn := fun _ => fun
  | [d1, d2] => { results := [.lit (.bool false)], args := [d1, d2] }
  | _ => none }
def FnFieldsApartWrongFalsely : Prop := fnFieldsApartRow.holds Tryd.pinned (OpenSpec.ofChange fnFieldsApartWrong)

/-- 'laws.FnFieldsPut': WHATEVER THE INPUT: true; the input reads as it did. -/
def fnFieldsPutSpec : ChangeSpec := { name := "fnFieldsPut", fn := fun _ => fun
  | [d] => { results := [.lit (.bool true)], args := [d] }
  | _ => none }
def fnFieldsPutRow : OpenClaim := { program := "ytgnpeoddnahnpaadoor", sum := "a24652b4ca92eb187de665b08909f7e34174cf589b888a0ddb612ddf1d2a41a7", func := "loop.example/poolfiles/laws.FnFieldsPut", spec := "fnFieldsPut", inPlace := ["internal/bytealg.IndexByteString", "internal/bytealg.IndexString"], recurses := true, named := ["internal/strconv.uint64pow10", "math/bits.deBruijn32tab", "math/bits.deBruijn64tab", "internal/bytealg.MaxLen", "strconv.ErrSyntax", "strconv.ErrRange"], apart := false, laid := [("math/bits.deBruijn32tab", laid_math_bits_deBruijn32tab), ("math/bits.deBruijn64tab", laid_math_bits_deBruijn64tab), ("internal/strconv.uint64pow10", laid_internal_strconv_uint64pow10), ("strconv.ErrRange", laid_strconv_ErrRange), ("strconv.ErrSyntax", laid_strconv_ErrSyntax)] }
def FnFieldsPutSaid : Prop := fnFieldsPutRow.holds Tryd.pinned (OpenSpec.ofChange fnFieldsPutSpec)

/-- ITS FALSE NEIGHBOUR: 'it returns false'. Refute it at one input. -/
def fnFieldsPutWrong : ChangeSpec := { name := "fnFieldsPut", fn := fun _ => fun
  | [d] => { results := [.lit (.bool false)], args := [d] }
  | _ => none }
def FnFieldsPutWrongFalsely : Prop := fnFieldsPutRow.holds Tryd.pinned (OpenSpec.ofChange fnFieldsPutWrong)

/-- 'laws.FnFieldsGet': WHATEVER THE INPUT: true; the input reads as it did. -/
def fnFieldsGetSpec : ChangeSpec := { name := "fnFieldsGet", fn := fun _ => fun
  | [d] => { results := [.lit (.bool true)], args := [d] }
  | _ => none }
def fnFieldsGetRow : OpenClaim := { program := "ytgnpeoddnahnpaadoor", sum := "a24652b4ca92eb187de665b08909f7e34174cf589b888a0ddb612ddf1d2a41a7", func := "loop.example/poolfiles/laws.FnFieldsGet", spec := "fnFieldsGet", inPlace := ["internal/bytealg.IndexByteString", "internal/bytealg.IndexString"], recurses := true, named := ["internal/bytealg.MaxLen", "strconv.ErrSyntax", "strconv.ErrRange", "internal/strconv.uint64pow10", "math/bits.deBruijn32tab", "math/bits.deBruijn64tab"], apart := false, laid := [("math/bits.deBruijn32tab", laid_math_bits_deBruijn32tab), ("math/bits.deBruijn64tab", laid_math_bits_deBruijn64tab), ("internal/strconv.uint64pow10", laid_internal_strconv_uint64pow10), ("strconv.ErrRange", laid_strconv_ErrRange), ("strconv.ErrSyntax", laid_strconv_ErrSyntax)] }
def FnFieldsGetSaid : Prop := fnFieldsGetRow.holds Tryd.pinned (OpenSpec.ofChange fnFieldsGetSpec)

/-- ITS FALSE NEIGHBOUR: 'it returns false'. Refute it at one input. -/
def fnFieldsGetWrong : ChangeSpec := { name := "fnFieldsGet", fn := fun _ => fun
  | [d] => { results := [.lit (.bool false)], args := [d] }
  | _ => none }
def FnFieldsGetWrongFalsely : Prop := fnFieldsGetRow.holds Tryd.pinned (OpenSpec.ofChange fnFieldsGetWrong)

/-- 'laws.FnNumPut': WHATEVER THE INPUT: true; the input reads as it did. -/
def fnNumPutSpec : ChangeSpec := { name := "fnNumPut", fn := fun _ => fun
  | [d] => { results := [.lit (.bool true)], args := [d] }
  | _ => none }
def fnNumPutRow : OpenClaim := { program := "ytgnpeoddnahnpaadoor", sum := "a24652b4ca92eb187de665b08909f7e34174cf589b888a0ddb612ddf1d2a41a7", func := "loop.example/poolfiles/laws.FnNumPut", spec := "fnNumPut", recurses := true, named := ["internal/strconv.uint64pow10", "math/bits.deBruijn32tab", "math/bits.deBruijn64tab", "strconv.ErrSyntax", "strconv.ErrRange"], apart := false, laid := [("math/bits.deBruijn32tab", laid_math_bits_deBruijn32tab), ("math/bits.deBruijn64tab", laid_math_bits_deBruijn64tab), ("internal/strconv.uint64pow10", laid_internal_strconv_uint64pow10), ("strconv.ErrRange", laid_strconv_ErrRange), ("strconv.ErrSyntax", laid_strconv_ErrSyntax)] }
def FnNumPutSaid : Prop := fnNumPutRow.holds Tryd.pinned (OpenSpec.ofChange fnNumPutSpec)

/-- ITS FALSE NEIGHBOUR: 'it returns false'. Refute it at one input. -/
def fnNumPutWrong : ChangeSpec := { name := "fnNumPut", fn := fun _ => fun
  | [d] => { results := [.lit (.bool false)], args := [d] }
  | _ => none }
def FnNumPutWrongFalsely : Prop := fnNumPutRow.holds Tryd.pinned (OpenSpec.ofChange fnNumPutWrong)

/-- 'laws.FnNumGet': WHATEVER THE INPUT: true; the input reads as it did. -/
def fnNumGetSpec : ChangeSpec := { name := "fnNumGet", fn := fun _ => fun
  | [d] => { results := [.lit (.bool true)], args := [d] }
  | _ => none }
def fnNumGetRow : OpenClaim := { program := "ytgnpeoddnahnpaadoor", sum := "a24652b4ca92eb187de665b08909f7e34174cf589b888a0ddb612ddf1d2a41a7", func := "loop.example/poolfiles/laws.FnNumGet", spec := "fnNumGet", recurses := true, named := ["strconv.ErrSyntax", "strconv.ErrRange", "internal/strconv.uint64pow10", "math/bits.deBruijn32tab", "math/bits.deBruijn64tab"], apart := false, laid := [("math/bits.deBruijn32tab", laid_math_bits_deBruijn32tab), ("math/bits.deBruijn64tab", laid_math_bits_deBruijn64tab), ("internal/strconv.uint64pow10", laid_internal_strconv_uint64pow10), ("strconv.ErrRange", laid_strconv_ErrRange), ("strconv.ErrSyntax", laid_strconv_ErrSyntax)] }
def FnNumGetSaid : Prop := fnNumGetRow.holds Tryd.pinned (OpenSpec.ofChange fnNumGetSpec)

/-- ITS FALSE NEIGHBOUR: 'it returns false'. Refute it at one input. -/
def fnNumGetWrong : ChangeSpec := { name := "fnNumGet", fn := fun _ => fun
  | [d] => { results := [.lit (.bool false)], args := [d] }
  | _ => none }
def FnNumGetWrongFalsely : Prop := fnNumGetRow.holds Tryd.pinned (OpenSpec.ofChange fnNumGetWrong)

/- THE SECOND FORM. 'bulk': how many values and letters a reading holds, each counted each time it is reached (what is shared counts as often as it is met; a slice's spare places count too). A statement '..UptoSaid' is the law's where the arguments, and the package variables that the reading takes, are together of bulk at most 1048576: NARROWER than '..Said'. Prove '..Said' where nothing that the law and all that it calls make is longer than what came in: it says more and counts as full. Else prove '..UptoSaid'. A law counts once. -/
mutual
def uptoBulk {H : Type} : DataW H → Nat
  | .lit (.string bytes) => bytes.length + 1
  | .lit _ => 1
  | .nil => 1
  | .ptr d => uptoBulk d + 1
  | .slice elems spare => uptoBulkAll elems + uptoBulkAll spare + 1
  | .agg parts => uptoBulkAll parts + 1
  | .iface _ d => uptoBulk d + 1
  | .map entries => uptoBulkEntries entries + 1
  | .held _ => 1
def uptoBulkAll {H : Type} : List (DataW H) → Nat
  | [] => 0
  | d :: r => uptoBulk d + uptoBulkAll r
def uptoBulkEntries {H : Type} : List (Lit × DataW H) → Nat
  | [] => 0
  | x :: r => uptoBulkEntry x + uptoBulkEntries r
def uptoBulkEntry {H : Type} : Lit × DataW H → Nat
  | (.string bytes, d) => bytes.length + uptoBulk d + 1
  | (_, d) => uptoBulk d + 1
 end
def uptoSmall : (H : Type) → List (DataW H) → Bool := fun _ ds => decide (uptoBulkAll ds ≤ 1048576)
def OpenSpec.upto (s : _root_.Go.ChangeSpec) : _root_.Go.OpenSpec := { _root_.Go.OpenSpec.ofChange s with cond := some uptoSmall }

/-- 'laws.FnExactFieldsPut', WHERE WHAT IT READS IS OF BULK AT MOST 1048576: true; the input reads as it did. -/
def fnExactFieldsPutUptoRow : OpenClaim := { program := "ytgnpeoddnahnpaadoor", sum := "a24652b4ca92eb187de665b08909f7e34174cf589b888a0ddb612ddf1d2a41a7", func := "loop.example/poolfiles/laws.FnExactFieldsPut", spec := "fnExactFieldsPut", recurses := true, named := ["internal/strconv.uint64pow10", "math/bits.deBruijn32tab", "math/bits.deBruijn64tab"], apart := false, laid := [("math/bits.deBruijn32tab", laid_math_bits_deBruijn32tab), ("math/bits.deBruijn64tab", laid_math_bits_deBruijn64tab), ("internal/strconv.uint64pow10", laid_internal_strconv_uint64pow10)], narrowed := true }
def FnExactFieldsPutUptoSaid : Prop := fnExactFieldsPutUptoRow.holds Tryd.pinned (OpenSpec.upto fnExactFieldsPutSpec)

/-- 'laws.FnExactFieldsGet', WHERE WHAT IT READS IS OF BULK AT MOST 1048576: true; the input reads as it did. -/
def fnExactFieldsGetUptoRow : OpenClaim := { program := "ytgnpeoddnahnpaadoor", sum := "a24652b4ca92eb187de665b08909f7e34174cf589b888a0ddb612ddf1d2a41a7", func := "loop.example/poolfiles/laws.FnExactFieldsGet", spec := "fnExactFieldsGet", inPlace := ["internal/bytealg.IndexByteString", "internal/bytealg.IndexString"], recurses := true, named := ["internal/bytealg.MaxLen", "strconv.ErrSyntax", "strconv.ErrRange", "internal/strconv.uint64pow10", "math/bits.deBruijn32tab", "math/bits.deBruijn64tab"], apart := false, laid := [("math/bits.deBruijn32tab", laid_math_bits_deBruijn32tab), ("math/bits.deBruijn64tab", laid_math_bits_deBruijn64tab), ("internal/strconv.uint64pow10", laid_internal_strconv_uint64pow10), ("strconv.ErrRange", laid_strconv_ErrRange), ("strconv.ErrSyntax", laid_strconv_ErrSyntax)], narrowed := true }
def FnExactFieldsGetUptoSaid : Prop := fnExactFieldsGetUptoRow.holds Tryd.pinned (OpenSpec.upto fnExactFieldsGetSpec)

/-- 'laws.FnExactNumPut', WHERE WHAT IT READS IS OF BULK AT MOST 1048576: true; the input reads as it did. -/
def fnExactNumPutUptoRow : OpenClaim := { program := "ytgnpeoddnahnpaadoor", sum := "a24652b4ca92eb187de665b08909f7e34174cf589b888a0ddb612ddf1d2a41a7", func := "loop.example/poolfiles/laws.FnExactNumPut", spec := "fnExactNumPut", recurses := true, named := ["internal/strconv.uint64pow10", "math/bits.deBruijn32tab", "math/bits.deBruijn64tab"], apart := false, laid := [("math/bits.deBruijn32tab", laid_math_bits_deBruijn32tab), ("math/bits.deBruijn64tab", laid_math_bits_deBruijn64tab), ("internal/strconv.uint64pow10", laid_internal_strconv_uint64pow10)], narrowed := true }
def FnExactNumPutUptoSaid : Prop := fnExactNumPutUptoRow.holds Tryd.pinned (OpenSpec.upto fnExactNumPutSpec)

/-- 'laws.FnExactNumGet', WHERE WHAT IT READS IS OF BULK AT MOST 1048576: true; the input reads as it did. -/
def fnExactNumGetUptoRow : OpenClaim := { program := "ytgnpeoddnahnpaadoor", sum := "a24652b4ca92eb187de665b08909f7e34174cf589b888a0ddb612ddf1d2a41a7", func := "loop.example/poolfiles/laws.FnExactNumGet", spec := "fnExactNumGet", named := ["strconv.ErrSyntax", "strconv.ErrRange", "internal/strconv.uint64pow10", "math/bits.deBruijn32tab", "math/bits.deBruijn64tab"], apart := false, laid := [("math/bits.deBruijn32tab", laid_math_bits_deBruijn32tab), ("math/bits.deBruijn64tab", laid_math_bits_deBruijn64tab), ("internal/strconv.uint64pow10", laid_internal_strconv_uint64pow10), ("strconv.ErrRange", laid_strconv_ErrRange), ("strconv.ErrSyntax", laid_strconv_ErrSyntax)], narrowed := true }
def FnExactNumGetUptoSaid : Prop := fnExactNumGetUptoRow.holds Tryd.pinned (OpenSpec.upto fnExactNumGetSpec)

/-- 'laws.FnFieldsJoin', WHERE WHAT IT READS IS OF BULK AT MOST 1048576: true; the input reads as it did. -/
def fnFieldsJoinUptoRow : OpenClaim := { program := "ytgnpeoddnahnpaadoor", sum := "a24652b4ca92eb187de665b08909f7e34174cf589b888a0ddb612ddf1d2a41a7", func := "loop.example/poolfiles/laws.FnFieldsJoin", spec := "fnFieldsJoin", recurses := true, named := ["internal/strconv.uint64pow10", "math/bits.deBruijn32tab", "math/bits.deBruijn64tab"], apart := false, laid := [("math/bits.deBruijn32tab", laid_math_bits_deBruijn32tab), ("math/bits.deBruijn64tab", laid_math_bits_deBruijn64tab), ("internal/strconv.uint64pow10", laid_internal_strconv_uint64pow10)], narrowed := true }
def FnFieldsJoinUptoSaid : Prop := fnFieldsJoinUptoRow.holds Tryd.pinned (OpenSpec.upto fnFieldsJoinSpec)

/-- 'laws.FnFieldsApart', WHERE WHAT IT READS IS OF BULK AT MOST 1048576: true; the input reads as it did. -/
def fnFieldsApartUptoRow : OpenClaim := { program := "ytgnpeoddnahnpaadoor", sum := "a24652b4ca92eb187de665b08909f7e34174cf589b888a0ddb612ddf1d2a41a7", func := "loop.example/poolfiles/laws.FnFieldsApart", spec := "fnFieldsApart", recurses := true, named := ["internal/strconv.uint64pow10", "math/bits.deBruijn32tab", "math/bits.deBruijn64tab"], apart := false, laid := [("math/bits.deBruijn32tab", laid_math_bits_deBruijn32tab), ("math/bits.deBruijn64tab", laid_math_bits_deBruijn64tab), ("internal/strconv.uint64pow10", laid_internal_strconv_uint64pow10)], narrowed := true }
def FnFieldsApartUptoSaid : Prop := fnFieldsApartUptoRow.holds Tryd.pinned (OpenSpec.upto fnFieldsApartSpec)

/-- 'laws.FnFieldsPut', WHERE WHAT IT READS IS OF BULK AT MOST 1048576: true; the input reads as it did. -/
def fnFieldsPutUptoRow : OpenClaim := { program := "ytgnpeoddnahnpaadoor", sum := "a24652b4ca92eb187de665b08909f7e34174cf589b888a0ddb612ddf1d2a41a7", func := "loop.example/poolfiles/laws.FnFieldsPut", spec := "fnFieldsPut", inPlace := ["internal/bytealg.IndexByteString", "internal/bytealg.IndexString"], recurses := true, named := ["internal/strconv.uint64pow10", "math/bits.deBruijn32tab", "math/bits.deBruijn64tab", "internal/bytealg.MaxLen", "strconv.ErrSyntax", "strconv.ErrRange"], apart := false, laid := [("math/bits.deBruijn32tab", laid_math_bits_deBruijn32tab), ("math/bits.deBruijn64tab", laid_math_bits_deBruijn64tab), ("internal/strconv.uint64pow10", laid_internal_strconv_uint64pow10), ("strconv.ErrRange", laid_strconv_ErrRange), ("strconv.ErrSyntax", laid_strconv_ErrSyntax)], narrowed := true }
def FnFieldsPutUptoSaid : Prop := fnFieldsPutUptoRow.holds Tryd.pinned (OpenSpec.upto fnFieldsPutSpec)

/-- 'laws.FnFieldsGet', WHERE WHAT IT READS IS OF BULK AT MOST 1048576: true; the input reads as it did. -/
def fnFieldsGetUptoRow : OpenClaim := { program := "ytgnpeoddnahnpaadoor", sum := "a24652b4ca92eb187de665b08909f7e34174cf589b888a0ddb612ddf1d2a41a7", func := "loop.example/poolfiles/laws.FnFieldsGet", spec := "fnFieldsGet", inPlace := ["internal/bytealg.IndexByteString", "internal/bytealg.IndexString"], recurses := true, named := ["internal/bytealg.MaxLen", "strconv.ErrSyntax", "strconv.ErrRange", "internal/strconv.uint64pow10", "math/bits.deBruijn32tab", "math/bits.deBruijn64tab"], apart := false, laid := [("math/bits.deBruijn32tab", laid_math_bits_deBruijn32tab), ("math/bits.deBruijn64tab", laid_math_bits_deBruijn64tab), ("internal/strconv.uint64pow10", laid_internal_strconv_uint64pow10), ("strconv.ErrRange", laid_strconv_ErrRange), ("strconv.ErrSyntax", laid_strconv_ErrSyntax)], narrowed := true }
def FnFieldsGetUptoSaid : Prop := fnFieldsGetUptoRow.holds Tryd.pinned (OpenSpec.upto fnFieldsGetSpec)

/-- 'laws.FnNumPut', WHERE WHAT IT READS IS OF BULK AT MOST 1048576: true; the input reads as it did. -/
def fnNumPutUptoRow : OpenClaim := { program := "ytgnpeoddnahnpaadoor", sum := "a24652b4ca92eb187de665b08909f7e34174cf589b888a0ddb612ddf1d2a41a7", func := "loop.example/poolfiles/laws.FnNumPut", spec := "fnNumPut", recurses := true, named := ["internal/strconv.uint64pow10", "math/bits.deBruijn32tab", "math/bits.deBruijn64tab", "strconv.ErrSyntax", "strconv.ErrRange"], apart := false, laid := [("math/bits.deBruijn32tab", laid_math_bits_deBruijn32tab), ("math/bits.deBruijn64tab", laid_math_bits_deBruijn64tab), ("internal/strconv.uint64pow10", laid_internal_strconv_uint64pow10), ("strconv.ErrRange", laid_strconv_ErrRange), ("strconv.ErrSyntax", laid_strconv_ErrSyntax)], narrowed := true }
def FnNumPutUptoSaid : Prop := fnNumPutUptoRow.holds Tryd.pinned (OpenSpec.upto fnNumPutSpec)

/-- 'laws.FnNumGet', WHERE WHAT IT READS IS OF BULK AT MOST 1048576: true; the input reads as it did. -/
def fnNumGetUptoRow : OpenClaim := { program := "ytgnpeoddnahnpaadoor", sum := "a24652b4ca92eb187de665b08909f7e34174cf589b888a0ddb612ddf1d2a41a7", func := "loop.example/poolfiles/laws.FnNumGet", spec := "fnNumGet", recurses := true, named := ["strconv.ErrSyntax", "strconv.ErrRange", "internal/strconv.uint64pow10", "math/bits.deBruijn32tab", "math/bits.deBruijn64tab"], apart := false, laid := [("math/bits.deBruijn32tab", laid_math_bits_deBruijn32tab), ("math/bits.deBruijn64tab", laid_math_bits_deBruijn64tab), ("internal/strconv.uint64pow10", laid_internal_strconv_uint64pow10), ("strconv.ErrRange", laid_strconv_ErrRange), ("strconv.ErrSyntax", laid_strconv_ErrSyntax)], narrowed := true }
def FnNumGetUptoSaid : Prop := fnNumGetUptoRow.holds Tryd.pinned (OpenSpec.upto fnNumGetSpec)

end Rows
end Go.Proofs.YtgnpeoddnahnpaaDoor
