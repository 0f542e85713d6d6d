/-
  The listed package-level variables: what the rows' lists give, and a world in which all seven read as listed.
-/
import Derived.Test.YtehmaacbmkfedaaDoorCards
import Derived.Test.YtehmaacbmkfedaaDoorTie
import Derived.Test.YtehmaacbmkfedaaDoorNum
import Derived.Test.YtehmaacbmkfedaaDoorParts0
import Derived.ProofKit
import Derived.OpenShut
import Derived.ShutString
import Derived.ChangeOld
import Derived.Below
import Derived.Deep.DeepHandedRow
import Derived.Lib.LaidTab
import Derived.Stop.LaidErr
namespace Go.Proofs.YtehmaacbmkfedaaDoor
open Go.ChangeShapes Go.WideShapes Go.ChangeAt Go.RowKit

theorem gPow : Tryd.prog.globalNamed "internal/strconv.uint64pow10" = some 3 := by kernel_rfl
theorem gPowType : (Tryd.prog.globals[3]?).map (·.type) = some 154 := by kernel_rfl
theorem cellsPow : Tryd.prog.cellsOf 154 = 20 := by kernel_rfl
theorem cellsU64 : Tryd.prog.cellsOf 120 = 1 := by kernel_rfl

theorem laid_tail {P : Program} {x : String × DataW Unit} {r : List (String × DataW Unit)} {W : World} (h : laidMet P (x :: r) W) : laidMet P r W := by
  obtain ⟨ps, ⟨g, t, cs, f, p, q, _, _, _, _, hr, e⟩, hn, hrows⟩ := h
  rw [e] at hn hrows
  exact ⟨q, hr, (List.nodup_append.1 hn).2.1, fun b off hm => hrows b off (List.mem_append_right _ hm)⟩

theorem table {W : World} {r : List (String × DataW Unit)} {x y : String × DataW Unit} (h : laidMet Tryd.prog (x :: y :: ("internal/strconv.uint64pow10", Rows.laid_internal_strconv_uint64pow10) :: r) W) :
    Lib.TabIs Tryd.prog W "internal/strconv.uint64pow10" .u64 Lib.pow10Tab :=
  Lib.tabIs_of_head gPow gPowType Tryd.underlying154 Tryd.underlying120 cellsU64 cellsPow (laid_tail (laid_tail h))

def layAt (h : Array Obj) (i : Nat) (cs : Array Value) : Array Obj :=
  h.modify i fun
    | .cells _ t frozen => .cells cs t frozen
    | o => o

theorem gSynType : (Tryd.prog.globals[4]?).map (·.type) = some 103 := by kernel_rfl
theorem gRngType : (Tryd.prog.globals[5]?).map (·.type) = some 103 := by kernel_rfl
theorem cellsErr : Tryd.prog.cellsOf 168 = 1 := by kernel_rfl
theorem cells9 : Tryd.prog.cellsOf 9 = 1 := by kernel_rfl
theorem star : "*" ++ "errors.errorString" = "*errors.errorString" := by decide
theorem rowErr (u : TypeId) (h : Tryd.prog.typeName? 3 u = some "*errors.errorString") : u = 166 :=
  typeName_ptr_named (nm := "errors.errorString") (by rw [star]; kernel_rfl) (by kernel_rfl) (by decide) u (by rw [star]; exact h)

theorem errs {W : World} {a b c d : String × DataW Unit} {r : List (String × DataW Unit)} (h : laidMet Tryd.prog (a :: b :: c :: d :: ("strconv.ErrRange", Rows.laid_strconv_ErrRange) :: ("strconv.ErrSyntax", Rows.laid_strconv_ErrSyntax) :: r) W) : Errs W := by
  have h1 := laid_tail (laid_tail (laid_tail (laid_tail h)))
  have h2 := laid_tail h1
  obtain ⟨a1, s1, hv1, -, -, -⟩ := laid_sentinel h1 gRng gRngType Tryd.underlying103 rowErr Tryd.underlying166 Tryd.underlying168 rfl rfl Tryd.underlying9 cellsErr cells9
  obtain ⟨a2, s2, hv2, -, -, -⟩ := laid_sentinel h2 gSyn gSynType Tryd.underlying103 rowErr Tryd.underlying166 Tryd.underlying168 rfl rfl Tryd.underlying9 cellsErr cells9
  exact ⟨⟨_, _, hv2⟩, ⟨_, _, hv1⟩⟩

noncomputable def laidWorldE (os : Os) (args : Array Value) : World :=
  { World.holding Tryd.prog os ⟨#[], args, []⟩ with heap := layAt (layAt (layAt (layAt (layAt (layAt (layAt (World.holding Tryd.prog os ⟨#[.cells #[.string ⟨#[105, 110, 118, 97, 108, 105, 100, 32, 115, 121, 110, 116, 97, 120]⟩] 168, .cells #[.string ⟨#[118, 97, 108, 117, 101, 32, 111, 117, 116, 32, 111, 102, 32, 114, 97, 110, 103, 101]⟩] 168], args, []⟩).heap 3 #[.int .u64 1, .int .u64 10, .int .u64 100, .int .u64 1000, .int .u64 10000, .int .u64 100000, .int .u64 1000000, .int .u64 10000000, .int .u64 100000000, .int .u64 1000000000, .int .u64 10000000000, .int .u64 100000000000, .int .u64 1000000000000, .int .u64 10000000000000, .int .u64 100000000000000, .int .u64 1000000000000000, .int .u64 10000000000000000, .int .u64 100000000000000000, .int .u64 1000000000000000000, .int .u64 10000000000000000000]) 6 #[.int .u8 0, .int .u8 1, .int .u8 28, .int .u8 2, .int .u8 29, .int .u8 14, .int .u8 24, .int .u8 3, .int .u8 30, .int .u8 22, .int .u8 20, .int .u8 15, .int .u8 25, .int .u8 17, .int .u8 4, .int .u8 8, .int .u8 31, .int .u8 27, .int .u8 13, .int .u8 23, .int .u8 21, .int .u8 19, .int .u8 16, .int .u8 7, .int .u8 26, .int .u8 12, .int .u8 18, .int .u8 6, .int .u8 11, .int .u8 5, .int .u8 10, .int .u8 9]) 7 #[.int .u8 0, .int .u8 1, .int .u8 56, .int .u8 2, .int .u8 57, .int .u8 49, .int .u8 28, .int .u8 3, .int .u8 61, .int .u8 58, .int .u8 42, .int .u8 50, .int .u8 38, .int .u8 29, .int .u8 17, .int .u8 4, .int .u8 62, .int .u8 47, .int .u8 59, .int .u8 36, .int .u8 45, .int .u8 43, .int .u8 51, .int .u8 22, .int .u8 53, .int .u8 39, .int .u8 33, .int .u8 30, .int .u8 24, .int .u8 18, .int .u8 12, .int .u8 5, .int .u8 63, .int .u8 55, .int .u8 48, .int .u8 27, .int .u8 60, .int .u8 41, .int .u8 37, .int .u8 16, .int .u8 46, .int .u8 35, .int .u8 44, .int .u8 21, .int .u8 52, .int .u8 32, .int .u8 23, .int .u8 11, .int .u8 54, .int .u8 26, .int .u8 40, .int .u8 15, .int .u8 34, .int .u8 20, .int .u8 31, .int .u8 10, .int .u8 25, .int .u8 14, .int .u8 19, .int .u8 9, .int .u8 13, .int .u8 8, .int .u8 7, .int .u8 6]) 2 #[.int .u8 128, .int .u8 191, .int .u8 160, .int .u8 191, .int .u8 128, .int .u8 159, .int .u8 144, .int .u8 191, .int .u8 128, .int .u8 143, .int .u8 0, .int .u8 0, .int .u8 0, .int .u8 0, .int .u8 0, .int .u8 0, .int .u8 0, .int .u8 0, .int .u8 0, .int .u8 0, .int .u8 0, .int .u8 0, .int .u8 0, .int .u8 0, .int .u8 0, .int .u8 0, .int .u8 0, .int .u8 0, .int .u8 0, .int .u8 0, .int .u8 0, .int .u8 0]) 1 (List.replicate 128 (Value.int .u8 240) ++ List.replicate 66 (Value.int .u8 241) ++ List.replicate 30 (Value.int .u8 2) ++ List.replicate 1 (Value.int .u8 19) ++ List.replicate 12 (Value.int .u8 3) ++ List.replicate 1 (Value.int .u8 35) ++ List.replicate 2 (Value.int .u8 3) ++ List.replicate 1 (Value.int .u8 52) ++ List.replicate 3 (Value.int .u8 4) ++ List.replicate 1 (Value.int .u8 68) ++ List.replicate 11 (Value.int .u8 241)).toArray) 4 #[.iface 166 (.pointer (some ⟨(World.settled Tryd.prog os).heap.size, 0, none⟩))]) 5 #[.iface 166 (.pointer (some ⟨(World.settled Tryd.prog os).heap.size + 1, 0, none⟩))] }

end Go.Proofs.YtehmaacbmkfedaaDoor
