/-
  The program's head, read once as a list of signs: what kind of cut it is.
-/
import Derived.Test.YtimpdjlgfjehcaaArgs
namespace Go.Proofs.Ytimpdjlgfjehcaa

def headSigns : List Nat := [104, 97, 114, 110, 101, 115, 115, 32, 49, 50, 100, 100, 57, 52, 54, 101, 48, 56, 48, 100, 100, 98, 98, 54, 50, 99, 49, 101, 48, 55, 52, 53, 56, 54, 51, 52, 49, 53, 48, 53, 51, 50, 100, 56, 53, 101, 57, 51, 51, 49, 56, 51, 100, 57, 50, 55, 50, 50, 99, 102, 57, 99, 102, 101, 56, 55, 50, 102, 101, 51, 54, 52, 32, 99, 117, 116, 32, 97, 116, 32, 108, 111, 111, 112, 46, 101, 120, 97, 109, 112, 108, 101, 47, 112, 111, 111, 108, 102, 105, 108, 101, 115, 47, 108, 97, 119, 115, 46, 70, 110, 68, 105, 115, 107, 67, 114, 97, 115, 104, 32, 108, 111, 111, 112, 46, 101, 120, 97, 109, 112, 108, 101, 47, 112, 111, 111, 108, 102, 105, 108, 101, 115, 47, 108, 97, 119, 115, 46, 70, 110, 68, 105, 115, 107, 83, 112, 111, 105, 108, 32, 108, 111, 111, 112, 46, 101, 120, 97, 109, 112, 108, 101, 47, 112, 111, 111, 108, 102, 105, 108, 101, 115, 47, 108, 97, 119, 115, 46, 70, 110, 68, 105, 115, 107, 76, 97, 115, 116]
set_option maxRecDepth 100000 in
theorem head_text : Try.prog.initOrder = "harness 12dd946e080ddbb62c1e07458634150532d85e933183d92722cf9cfe872fe364 cut at loop.example/poolfiles/laws.FnDiskCrash loop.example/poolfiles/laws.FnDiskSpoil loop.example/poolfiles/laws.FnDiskLast" := by kernel_rfl
set_option maxRecDepth 100000 in
theorem head_signs : "harness 12dd946e080ddbb62c1e07458634150532d85e933183d92722cf9cfe872fe364 cut at loop.example/poolfiles/laws.FnDiskCrash loop.example/poolfiles/laws.FnDiskSpoil loop.example/poolfiles/laws.FnDiskLast" = String.ofList (headSigns.map Char.ofNat) := by kernel_rfl
theorem head_is : Try.prog.initOrder = String.ofList (headSigns.map Char.ofNat) := head_text.trans head_signs
theorem head_list : Try.prog.initOrder.toList = headSigns.map Char.ofNat := by rw [head_is, String.toList_ofList]
def tailSigns : List Nat := [108, 111, 111, 112, 46, 101, 120, 97, 109, 112, 108, 101, 47, 112, 111, 111, 108, 102, 105, 108, 101, 115, 47, 108, 97, 119, 115, 46, 70, 110, 68, 105, 115, 107, 67, 114, 97, 115, 104, 32, 108, 111, 111, 112, 46, 101, 120, 97, 109, 112, 108, 101, 47, 112, 111, 111, 108, 102, 105, 108, 101, 115, 47, 108, 97, 119, 115, 46, 70, 110, 68, 105, 115, 107, 83, 112, 111, 105, 108, 32, 108, 111, 111, 112, 46, 101, 120, 97, 109, 112, 108, 101, 47, 112, 111, 111, 108, 102, 105, 108, 101, 115, 47, 108, 97, 119, 115, 46, 70, 110, 68, 105, 115, 107, 76, 97, 115, 116]
set_option maxRecDepth 100000 in
theorem head_words : behindMainWord (wordsSigns (headSigns.map Char.ofNat)) = "cut".toList :: "at".toList :: wordsSigns (tailSigns.map Char.ofNat) := by kernel_rfl
set_option maxRecDepth 100000 in
theorem strip_cut (l : List (List Char)) : stripLifts liftWords ("cut".toList :: "at".toList :: l) = ([], "cut".toList :: "at".toList :: l) := by kernel_rfl
theorem make_of (P : Program) (l : List (List Char)) (h : behindMainWord (wordsSigns P.initOrder.toList) = "cut".toList :: "at".toList :: l) : P.make = some .cut := by
  unfold Program.make
  rw [h]
  have a1 : ("cut".toList == "gc".toList) = false := by kernel_rfl
  have a2 : ("cut".toList == "spec".toList) = false := by kernel_rfl
  have a3 : ("cut".toList == "cut".toList) = true := by kernel_rfl
  simp only [a1, a2, a3, Bool.or_false, Bool.true_or, Bool.false_eq_true, if_false, if_true]
theorem enter_of (P : Program) (l : List (List Char)) (h : behindMainWord (wordsSigns P.initOrder.toList) = "cut".toList :: "at".toList :: l) (h1 : P.laysLater = false) (h2 : P.bearsReflect = false) (h3 : P.doorFits [] = true) : P.mayEnter = true := by
  unfold Program.mayEnter
  rw [h]
  have a1 : ("cut".toList == "gc".toList) = false := by kernel_rfl
  have a2 : ("cut".toList == "spec".toList) = false := by kernel_rfl
  have a3 : ("cut".toList == "carried".toList) = false := by kernel_rfl
  have a4 : (some "cut".toList == some "cut".toList) = true := by kernel_rfl
  simp only [a1, a2, a3, a4, strip_cut, h1, h2, h3, List.head?_cons, List.contains_nil, Bool.or_false, Bool.false_or, Bool.false_and, Bool.and_true, Bool.not_false, Bool.or_true]
theorem words_of : behindMainWord (wordsSigns Try.prog.initOrder.toList) = "cut".toList :: "at".toList :: wordsSigns (tailSigns.map Char.ofNat) := by
  rw [head_list]
  exact head_words
theorem make_cut : Try.prog.make = some .cut := make_of _ _ words_of
theorem may_enter : Try.prog.mayEnter = true := enter_of _ _ words_of (by kernel_rfl) (by kernel_rfl) (by kernel_rfl)
set_option maxRecDepth 100000 in
theorem lifts_final : Try.prog.liftsFinal = false := by
  unfold Program.liftsFinal Program.headLifts
  rw [head_list]
  kernel_rfl
end Go.Proofs.Ytimpdjlgfjehcaa
