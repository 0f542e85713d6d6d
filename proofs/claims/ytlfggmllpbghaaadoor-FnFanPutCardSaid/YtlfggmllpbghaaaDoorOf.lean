/-
  spec.PtrOf answers some five numbers.
-/
import Derived.Test.YtlfggmllpbghaaaDoorSums
import Derived.Laws.ResultCell
namespace Go.Proofs.YtlfggmllpbghaaaDoor
open Go.RowKit

theorem sblock_yes (s : ByteArray) (w : World) (h : 1 ≤ (s.size : Int) ∧ (s.size : Int) ≤ 128) : Calls Tryd.prog 67 #[.string s] w fun e w' => e = .returned (.bool true) ∧ w = w' := by
  go_enter Tryd.func67, Tryd.ntmps67
  go_wp2_with (go_at_call 44; refine (in_yes _ _ _ _ h).mono ?_; rintro e w' ⟨rfl, rfl⟩)
  go_ret
  exact ⟨rfl, rfl⟩
theorem sblock_no (s : ByteArray) (w : World) (h : ¬ (1 ≤ (s.size : Int) ∧ (s.size : Int) ≤ 128)) : Calls Tryd.prog 67 #[.string s] w fun e w' => e = .returned (.bool false) ∧ w = w' := by
  go_enter Tryd.func67, Tryd.ntmps67
  go_wp2_with (go_at_call 44; refine (in_no _ _ _ _ h).mono ?_; rintro e w' ⟨rfl, rfl⟩)
  go_ret
  exact ⟨rfl, rfl⟩

/-- What making a pointer to a block answers. -/
def ofPost (a b l : Int) (s : ByteArray) (w : World) (r : Ending) (w' : World) : Prop :=
  Below w.heap.size w w' ∧
  ((((1 ≤ (s.size : Int) ∧ (s.size : Int) ≤ 128) ∧ isOk a b s.size (sumT s.data.toList) l = true) ∧ r = .returned (.tuple #[.agg #[.int .i64 a, .int .i64 b, .int .i64 s.size, .int .i64 (sumT s.data.toList), .int .i64 l], .bool true])) ∨
   (¬ ((1 ≤ (s.size : Int) ∧ (s.size : Int) ≤ 128) ∧ isOk a b s.size (sumT s.data.toList) l = true) ∧ r = .returned (.tuple #[.agg #[.int .i64 0, .int .i64 0, .int .i64 0, .int .i64 0, .int .i64 0], .bool false])))

set_option maxHeartbeats 1000000 in
theorem spec_of (a b l : Int) (s : ByteArray) (w : World) : Calls Tryd.prog 58 #[.int .i64 a, .int .i64 b, .int .i64 l, .string s] w (ofPost a b l s w) := by
  by_cases hs : 1 ≤ (s.size : Int) ∧ (s.size : Int) ≤ 128
  · have hO := fun w => spec_ok a b s.size (sumT s.data.toList) l w
    have hS := fun w => spec_sum s w (by unfold maxLen; omega)
    unfold ofPost
    obtain ⟨z, hz⟩ : ∃ z, z = sumT s.data.toList := ⟨_, rfl⟩
    rw [← hz] at hO hS ⊢
    clear hz
    by_cases hk : isOk a b s.size z l = true
    · rw [hk] at hO
      have HK := Lib.hid hk
      clear hk
      go_enter Tryd.func58, Tryd.ntmps58
      go_wp2_with (first | (go_at_call 67; refine (sblock_yes _ _ hs).mono ?_; rintro e w' ⟨rfl, rfl⟩) | (go_at_call 68; refine (hS _).mono ?_; rintro e w' ⟨rfl, rfl⟩) | (go_at_call 16; refine (hO _).mono ?_; rintro e w' ⟨rfl, rfl⟩))
      refine bodyPost_ret (v := .tuple #[.agg #[.int .i64 a, .int .i64 b, .int .i64 s.size, .int .i64 z, .int .i64 l], .bool true]) ?_ rfl ⟨(by repeat' (first | exact Below.refl _ _ | refine bel_new ?_ _ | refine Below.drew ?_)), .inl ⟨⟨hs, HK.out⟩, rfl⟩⟩
      rw [results_cell_tmp rfl]
      go_simp
    · have hk' : isOk a b s.size z l = false := by simpa using hk
      rw [hk'] at hO
      have HK := Lib.hid hk
      clear hk hk'
      go_enter Tryd.func58, Tryd.ntmps58
      go_wp2_with (first | (go_at_call 67; refine (sblock_yes _ _ hs).mono ?_; rintro e w' ⟨rfl, rfl⟩) | (go_at_call 68; refine (hS _).mono ?_; rintro e w' ⟨rfl, rfl⟩) | (go_at_call 16; refine (hO _).mono ?_; rintro e w' ⟨rfl, rfl⟩))
      refine bodyPost_ret (v := .tuple #[.agg #[.int .i64 0, .int .i64 0, .int .i64 0, .int .i64 0, .int .i64 0], .bool false]) ?_ rfl ⟨(by repeat' (first | exact Below.refl _ _ | refine bel_new ?_ _ | refine Below.drew ?_)), .inr ⟨fun h => HK.out h.2, rfl⟩⟩
      rw [results_cell_tmp rfl]
      go_simp
  · go_enter Tryd.func58, Tryd.ntmps58
    go_wp2_with (first | (go_at_call 67; refine (sblock_no _ _ hs).mono ?_; rintro e w' ⟨rfl, rfl⟩))
    refine bodyPost_ret (v := .tuple #[.agg #[.int .i64 0, .int .i64 0, .int .i64 0, .int .i64 0, .int .i64 0], .bool false]) ?_ rfl ⟨(by repeat' (first | exact Below.refl _ _ | refine bel_new ?_ _ | refine Below.drew ?_)), .inr ⟨fun h => hs h.1, rfl⟩⟩
    rw [results_cell_tmp rfl]
    go_simp

theorem of_some (a b l : Int) (s : ByteArray) (w : World) : Calls Tryd.prog 58 #[.int .i64 a, .int .i64 b, .int .i64 l, .string s] w fun r w' => ∃ (p q m x y : Int) (o : Bool), r = .returned (.tuple #[.agg #[.int .i64 p, .int .i64 q, .int .i64 m, .int .i64 x, .int .i64 y], .bool o]) ∧ Below w.heap.size w w' :=
  (spec_of a b l s w).mono fun r w' ⟨hb, h⟩ => by
    rcases h with ⟨_, h⟩ | ⟨_, h⟩
    · exact ⟨_, _, _, _, _, _, h, hb⟩
    · exact ⟨_, _, _, _, _, _, h, hb⟩

end Go.Proofs.YtlfggmllpbghaaaDoor
