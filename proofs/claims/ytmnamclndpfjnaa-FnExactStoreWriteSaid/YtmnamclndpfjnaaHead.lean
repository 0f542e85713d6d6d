/-
  The program's head, read once as a list of signs: what kind of cut it is.
-/
import Derived.Test.YtmnamclndpfjnaaArgs
namespace Go.Proofs.Ytmnamclndpfjnaa

def headSigns : List Nat := [104, 97, 114, 110, 101, 115, 115, 32, 100, 57, 102, 102, 54, 56, 52, 98, 101, 57, 102, 54, 55, 102, 52, 101, 54, 55, 54, 57, 51, 100, 102, 49, 57, 50, 56, 55, 48, 98, 99, 55, 99, 57, 102, 57, 51, 97, 53, 50, 54, 101, 52, 98, 50, 53, 102, 101, 102, 48, 98, 55, 51, 99, 48, 56, 55, 52, 99, 98, 100, 53, 52, 48, 32, 99, 117, 116, 32, 97, 116, 32, 108, 111, 111, 112, 46, 101, 120, 97, 109, 112, 108, 101, 47, 112, 111, 111, 108, 102, 105, 108, 101, 115, 47, 108, 97, 119, 115, 46, 70, 110, 69, 120, 97, 99, 116, 83, 116, 111, 114, 101, 78, 101, 119, 32, 108, 111, 111, 112, 46, 101, 120, 97, 109, 112, 108, 101, 47, 112, 111, 111, 108, 102, 105, 108, 101, 115, 47, 108, 97, 119, 115, 46, 70, 110, 69, 120, 97, 99, 116, 83, 116, 111, 114, 101, 79, 107, 32, 108, 111, 111, 112, 46, 101, 120, 97, 109, 112, 108, 101, 47, 112, 111, 111, 108, 102, 105, 108, 101, 115, 47, 108, 97, 119, 115, 46, 70, 110, 69, 120, 97, 99, 116, 83, 116, 111, 114, 101, 82, 101, 97, 100, 32, 108, 111, 111, 112, 46, 101, 120, 97, 109, 112, 108, 101, 47, 112, 111, 111, 108, 102, 105, 108, 101, 115, 47, 108, 97, 119, 115, 46, 70, 110, 69, 120, 97, 99, 116, 83, 116, 111, 114, 101, 87, 114, 105, 116, 101, 32, 108, 111, 111, 112, 46, 101, 120, 97, 109, 112, 108, 101, 47, 112, 111, 111, 108, 102, 105, 108, 101, 115, 47, 108, 97, 119, 115, 46, 70, 110, 69, 120, 97, 99, 116, 83, 116, 111, 114, 101, 70, 114, 101, 101, 32, 108, 111, 111, 112, 46, 101, 120, 97, 109, 112, 108, 101, 47, 112, 111, 111, 108, 102, 105, 108, 101, 115, 47, 108, 97, 119, 115, 46, 70, 110, 69, 120, 97, 99, 116, 83, 116, 111, 114, 101, 78, 101, 120, 116, 32, 108, 111, 111, 112, 46, 101, 120, 97, 109, 112, 108, 101, 47, 112, 111, 111, 108, 102, 105, 108, 101, 115, 47, 108, 97, 119, 115, 46, 70, 110, 69, 120, 97, 99, 116, 83, 116, 111, 114, 101, 82, 111, 111, 109, 32, 108, 111, 111, 112, 46, 101, 120, 97, 109, 112, 108, 101, 47, 112, 111, 111, 108, 102, 105, 108, 101, 115, 47, 108, 97, 119, 115, 46, 70, 110, 83, 116, 111, 114, 101, 78, 101, 119]
set_option maxRecDepth 100000 in
theorem head_text : Try.prog.initOrder = "harness d9ff684be9f67f4e67693df192870bc7c9f93a526e4b25fef0b73c0874cbd540 cut at loop.example/poolfiles/laws.FnExactStoreNew loop.example/poolfiles/laws.FnExactStoreOk loop.example/poolfiles/laws.FnExactStoreRead loop.example/poolfiles/laws.FnExactStoreWrite loop.example/poolfiles/laws.FnExactStoreFree loop.example/poolfiles/laws.FnExactStoreNext loop.example/poolfiles/laws.FnExactStoreRoom loop.example/poolfiles/laws.FnStoreNew" := by kernel_rfl
set_option maxRecDepth 100000 in
theorem head_signs : "harness d9ff684be9f67f4e67693df192870bc7c9f93a526e4b25fef0b73c0874cbd540 cut at loop.example/poolfiles/laws.FnExactStoreNew loop.example/poolfiles/laws.FnExactStoreOk loop.example/poolfiles/laws.FnExactStoreRead loop.example/poolfiles/laws.FnExactStoreWrite loop.example/poolfiles/laws.FnExactStoreFree loop.example/poolfiles/laws.FnExactStoreNext loop.example/poolfiles/laws.FnExactStoreRoom loop.example/poolfiles/laws.FnStoreNew" = String.ofList (headSigns.map Char.ofNat) := by kernel_rfl
theorem head_is : Try.prog.initOrder = String.ofList (headSigns.map Char.ofNat) := head_text.trans head_signs
theorem head_list : Try.prog.initOrder.toList = headSigns.map Char.ofNat := by rw [head_is, String.toList_ofList]
def tailSigns : List Nat := [108, 111, 111, 112, 46, 101, 120, 97, 109, 112, 108, 101, 47, 112, 111, 111, 108, 102, 105, 108, 101, 115, 47, 108, 97, 119, 115, 46, 70, 110, 69, 120, 97, 99, 116, 83, 116, 111, 114, 101, 78, 101, 119, 32, 108, 111, 111, 112, 46, 101, 120, 97, 109, 112, 108, 101, 47, 112, 111, 111, 108, 102, 105, 108, 101, 115, 47, 108, 97, 119, 115, 46, 70, 110, 69, 120, 97, 99, 116, 83, 116, 111, 114, 101, 79, 107, 32, 108, 111, 111, 112, 46, 101, 120, 97, 109, 112, 108, 101, 47, 112, 111, 111, 108, 102, 105, 108, 101, 115, 47, 108, 97, 119, 115, 46, 70, 110, 69, 120, 97, 99, 116, 83, 116, 111, 114, 101, 82, 101, 97, 100, 32, 108, 111, 111, 112, 46, 101, 120, 97, 109, 112, 108, 101, 47, 112, 111, 111, 108, 102, 105, 108, 101, 115, 47, 108, 97, 119, 115, 46, 70, 110, 69, 120, 97, 99, 116, 83, 116, 111, 114, 101, 87, 114, 105, 116, 101, 32, 108, 111, 111, 112, 46, 101, 120, 97, 109, 112, 108, 101, 47, 112, 111, 111, 108, 102, 105, 108, 101, 115, 47, 108, 97, 119, 115, 46, 70, 110, 69, 120, 97, 99, 116, 83, 116, 111, 114, 101, 70, 114, 101, 101, 32, 108, 111, 111, 112, 46, 101, 120, 97, 109, 112, 108, 101, 47, 112, 111, 111, 108, 102, 105, 108, 101, 115, 47, 108, 97, 119, 115, 46, 70, 110, 69, 120, 97, 99, 116, 83, 116, 111, 114, 101, 78, 101, 120, 116, 32, 108, 111, 111, 112, 46, 101, 120, 97, 109, 112, 108, 101, 47, 112, 111, 111, 108, 102, 105, 108, 101, 115, 47, 108, 97, 119, 115, 46, 70, 110, 69, 120, 97, 99, 116, 83, 116, 111, 114, 101, 82, 111, 111, 109, 32, 108, 111, 111, 112, 46, 101, 120, 97, 109, 112, 108, 101, 47, 112, 111, 111, 108, 102, 105, 108, 101, 115, 47, 108, 97, 119, 115, 46, 70, 110, 83, 116, 111, 114, 101, 78, 101, 119]
set_option maxRecDepth 100000 in
theorem head_words : behindMainWord (wordsSigns (headSigns.map Char.ofNat)) = "cut".toList :: "at".toList :: wordsSigns (tailSigns.map Char.ofNat) := by kernel_rfl
set_option maxRecDepth 100000 in
theorem strip_cut (l : List (List Char)) : stripLifts liftWords ("cut".toList :: "at".toList :: l) = ([], "cut".toList :: "at".toList :: l) := by kernel_rfl
theorem make_of (P : Program) (l : List (List Char)) (h : behindMainWord (wordsSigns P.initOrder.toList) = "cut".toList :: "at".toList :: l) : P.make = some .cut := by
  unfold Program.make
  rw [h]
  have a1 : ("cut".toList == "gc".toList) = false := by kernel_rfl
  have a2 : ("cut".toList == "spec".toList) = false := by kernel_rfl
  have a3 : ("cut".toList == "cut".toList) = true := by kernel_rfl
  simp only [a1, a2, a3, Bool.or_false, Bool.true_or, Bool.false_eq_true, if_false, if_true]
theorem enter_of (P : Program) (l : List (List Char)) (h : behindMainWord (wordsSigns P.initOrder.toList) = "cut".toList :: "at".toList :: l) (h1 : P.laysLater = false) (h2 : P.bearsReflect = false) (h3 : P.doorFits [] = true) : P.mayEnter = true := by
  unfold Program.mayEnter
  rw [h]
  have a1 : ("cut".toList == "gc".toList) = false := by kernel_rfl
  have a2 : ("cut".toList == "spec".toList) = false := by kernel_rfl
  have a3 : ("cut".toList == "carried".toList) = false := by kernel_rfl
  have a4 : (some "cut".toList == some "cut".toList) = true := by kernel_rfl
  simp only [a1, a2, a3, a4, strip_cut, h1, h2, h3, List.head?_cons, List.contains_nil, Bool.or_false, Bool.false_or, Bool.false_and, Bool.and_true, Bool.not_false, Bool.or_true]
theorem words_of : behindMainWord (wordsSigns Try.prog.initOrder.toList) = "cut".toList :: "at".toList :: wordsSigns (tailSigns.map Char.ofNat) := by
  rw [head_list]
  exact head_words
theorem make_cut : Try.prog.make = some .cut := make_of _ _ words_of
theorem may_enter : Try.prog.mayEnter = true := enter_of _ _ words_of (by kernel_rfl) (by kernel_rfl) (by kernel_rfl)
set_option maxRecDepth 100000 in
theorem lifts_final : Try.prog.liftsFinal = false := by
  unfold Program.liftsFinal Program.headLifts
  rw [head_list]
  kernel_rfl
end Go.Proofs.Ytmnamclndpfjnaa
