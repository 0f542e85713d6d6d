/-
  Pointers: a law's copy of one, what is valid, and the comparison of two, field by field. No condition.
-/
import Derived.Test.YtlfggmllpbghaaaPtr
import Derived.Test.YtlfggmllpbghaaaSums
import Derived.Laws.ResultCell
import Derived.Laws.Rows
namespace Go.Proofs.Ytlfggmllpbghaaa
open Go.RowKit

set_option maxHeartbeats 1000000 in
theorem spec_ok (a b c d e : Int) (w : World) : Calls Try.prog 18 #[.agg #[.int .i64 a, .int .i64 b, .int .i64 c, .int .i64 d, .int .i64 e]] w fun r w' => r = .returned (.bool (isOk a b c d e)) ∧ w' = (w.alloc (.cells #[.int .i64 a, .int .i64 b, .int .i64 c, .int .i64 d, .int .i64 e] 26)).alloc (.cells #[.int .i64 a, .int .i64 b, .int .i64 c, .int .i64 d, .int .i64 e] 26) := by
  by_cases hh : isHole a b c d e = true
  · have hr : isOk a b c d e = true := by unfold isOk; rw [hh]; rfl
    rw [hr]
    have hM := fun w => spec_hole a b c d e w
    rw [hh] at hM
    clear hh hr
    go_enter Try.func18, Try.ntmps18
    go_wp2_with (go_at_call 20; refine (hM _).mono ?_; rintro r w' ⟨rfl, rfl⟩)
    go_ret
    exact ⟨rfl, rfl⟩
  · have hh' : isHole a b c d e = false := by simpa using hh
    have hM := fun w => spec_hole a b c d e w
    rw [hh'] at hM
    by_cases hr : isOk a b c d e = true
    · have hi : inAll a b c d e := by unfold isOk at hr; rw [hh'] at hr; simpa using hr
      obtain ⟨h1, h2, h3, h4, h5⟩ := hi
      rw [hr]
      clear hh hh' hr
      go_enter Try.func18, Try.ntmps18
      go_wp2_with (first | (go_at_call 20; refine (hM _).mono ?_; rintro r w' ⟨rfl, rfl⟩) | (go_at_call 33; refine (row_yes _ _ (by assumption)).mono ?_; rintro e w' ⟨rfl, rfl⟩) | (go_at_call 34; refine (in_yes _ _ _ _ (by assumption)).mono ?_; rintro e w' ⟨rfl, rfl⟩))
      go_ret
      exact ⟨rfl, rfl⟩
    · have hi : ¬ inAll a b c d e := by unfold isOk at hr; rw [hh'] at hr; simpa using hr
      have hr' : isOk a b c d e = false := by simpa using hr
      rw [hr']
      clear hh hh' hr hr'
      unfold inAll at hi
      by_cases h1 : 8 ≤ a ∧ a ≤ 63
      · have h2345 : ¬ ((1 ≤ b ∧ b ≤ 900) ∧ (1 ≤ c ∧ c ≤ 128) ∧ (0 ≤ d ∧ d ≤ 99460728) ∧ (0 ≤ e ∧ e ≤ 2)) := fun h => hi ⟨h1, h⟩
        clear hi
        by_cases h2 : 1 ≤ b ∧ b ≤ 900
        · by_cases h3 : 1 ≤ c ∧ c ≤ 128
          · by_cases h4 : 0 ≤ d ∧ d ≤ 99460728
            · have h5 : ¬ (0 ≤ e ∧ e ≤ 2) := fun h5 => h2345 ⟨h2, h3, h4, h5⟩
              clear h2345
              go_enter Try.func18, Try.ntmps18
              go_wp2_with (first | (go_at_call 20; refine (hM _).mono ?_; rintro r w' ⟨rfl, rfl⟩) | (go_at_call 33; refine (row_yes _ _ (by assumption)).mono ?_; rintro e w' ⟨rfl, rfl⟩) | (go_at_call 34; first | (refine (in_yes _ _ _ _ (by assumption)).mono ?_; rintro e w' ⟨rfl, rfl⟩) | (refine (in_no _ _ _ _ (by assumption)).mono ?_; rintro e w' ⟨rfl, rfl⟩)))
              go_ret
              exact ⟨rfl, rfl⟩
            · clear h2345
              go_enter Try.func18, Try.ntmps18
              go_wp2_with (first | (go_at_call 20; refine (hM _).mono ?_; rintro r w' ⟨rfl, rfl⟩) | (go_at_call 33; refine (row_yes _ _ (by assumption)).mono ?_; rintro e w' ⟨rfl, rfl⟩) | (go_at_call 34; first | (refine (in_yes _ _ _ _ (by assumption)).mono ?_; rintro e w' ⟨rfl, rfl⟩) | (refine (in_no _ _ _ _ (by assumption)).mono ?_; rintro e w' ⟨rfl, rfl⟩)))
              go_ret
              exact ⟨rfl, rfl⟩
          · clear h2345
            go_enter Try.func18, Try.ntmps18
            go_wp2_with (first | (go_at_call 20; refine (hM _).mono ?_; rintro r w' ⟨rfl, rfl⟩) | (go_at_call 33; refine (row_yes _ _ (by assumption)).mono ?_; rintro e w' ⟨rfl, rfl⟩) | (go_at_call 34; first | (refine (in_yes _ _ _ _ (by assumption)).mono ?_; rintro e w' ⟨rfl, rfl⟩) | (refine (in_no _ _ _ _ (by assumption)).mono ?_; rintro e w' ⟨rfl, rfl⟩)))
            go_ret
            exact ⟨rfl, rfl⟩
        · clear h2345
          go_enter Try.func18, Try.ntmps18
          go_wp2_with (first | (go_at_call 20; refine (hM _).mono ?_; rintro r w' ⟨rfl, rfl⟩) | (go_at_call 33; refine (row_yes _ _ (by assumption)).mono ?_; rintro e w' ⟨rfl, rfl⟩) | (go_at_call 34; first | (refine (in_yes _ _ _ _ (by assumption)).mono ?_; rintro e w' ⟨rfl, rfl⟩) | (refine (in_no _ _ _ _ (by assumption)).mono ?_; rintro e w' ⟨rfl, rfl⟩)))
          go_ret
          exact ⟨rfl, rfl⟩
      · clear hi
        go_enter Try.func18, Try.ntmps18
        go_wp2_with (first | (go_at_call 20; refine (hM _).mono ?_; rintro r w' ⟨rfl, rfl⟩) | (go_at_call 33; refine (row_no _ _ (by assumption)).mono ?_; rintro e w' ⟨rfl, rfl⟩))
        go_ret
        exact ⟨rfl, rfl⟩

theorem box_cell {w w' : World} {vs : Array Value} {t : TypeId} (hb : Below (w.alloc (.cells vs t)).heap.size (w.alloc (.cells vs t)) w') (k : Nat) (v : Value) (h : vs[k]? = some v) : w'.cell? ⟨w.heap.size, k, none⟩ = some v := by
  rw [hb.cell (by simp), World.cell?_alloc_mark]
  exact h
theorem to_ptr (a b c d e : Int) (w : World) : Calls Try.prog 19 #[.agg #[.int .i64 a, .int .i64 b, .int .i64 c, .int .i64 d, .int .i64 e]] w fun r w' => r = .returned (.agg #[.int .i64 a, .int .i64 b, .int .i64 c, .int .i64 d, .int .i64 e]) ∧ w' = ((w.alloc (.cells #[.int .i64 a, .int .i64 b, .int .i64 c, .int .i64 d, .int .i64 e] 35)).alloc (.cells #[.int .i64 a, .int .i64 b, .int .i64 c, .int .i64 d, .int .i64 e] 26)).alloc (.cells #[.int .i64 a, .int .i64 b, .int .i64 c, .int .i64 d, .int .i64 e] 26) := by
  go_enter Try.func19, Try.ntmps19
  go_wp2
  refine bodyPost_ret (v := .agg #[.int .i64 a, .int .i64 b, .int .i64 c, .int .i64 d, .int .i64 e]) (by simp [results, Try.f19, go_sem]) rfl ⟨rfl, rfl⟩

theorem eq_ptr (a b c d e : Int) (w : World) : Calls Try.prog 21 #[.agg #[.int .i64 a, .int .i64 b, .int .i64 c, .int .i64 d, .int .i64 e], .agg #[.int .i64 a, .int .i64 b, .int .i64 c, .int .i64 d, .int .i64 e]] w fun r w' => r = .returned (.bool true) ∧ w' = (w.alloc (.cells #[.int .i64 a, .int .i64 b, .int .i64 c, .int .i64 d, .int .i64 e] 26)).alloc (.cells #[.int .i64 a, .int .i64 b, .int .i64 c, .int .i64 d, .int .i64 e] 26) := by
  go_enter Try.func21, Try.ntmps21
  go_wp2
  go_ret
  exact ⟨rfl, rfl⟩

theorem iblock_yes (s : ByteArray) (w : World) (h : 1 ≤ (s.size : Int) ∧ (s.size : Int) ≤ 128) : Calls Try.prog 26 #[.string s] w fun e w' => e = .returned (.bool true) ∧ w = w' := by
  go_enter Try.func26, Try.ntmps26
  go_wp2_with (go_at_call 37; refine (im_yes _ _ _ _ h).mono ?_; rintro e w' ⟨rfl, rfl⟩)
  go_ret
  exact ⟨rfl, rfl⟩
theorem iblock_no (s : ByteArray) (w : World) (h : ¬ (1 ≤ (s.size : Int) ∧ (s.size : Int) ≤ 128)) : Calls Try.prog 26 #[.string s] w fun e w' => e = .returned (.bool false) ∧ w = w' := by
  go_enter Try.func26, Try.ntmps26
  go_wp2_with (go_at_call 37; refine (im_no _ _ _ _ h).mono ?_; rintro e w' ⟨rfl, rfl⟩)
  go_ret
  exact ⟨rfl, rfl⟩
theorem sblock_yes (s : ByteArray) (w : World) (h : 1 ≤ (s.size : Int) ∧ (s.size : Int) ≤ 128) : Calls Try.prog 28 #[.string s] w fun e w' => e = .returned (.bool true) ∧ w = w' := by
  go_enter Try.func28, Try.ntmps28
  go_wp2_with (go_at_call 34; refine (in_yes _ _ _ _ h).mono ?_; rintro e w' ⟨rfl, rfl⟩)
  go_ret
  exact ⟨rfl, rfl⟩
theorem sblock_no (s : ByteArray) (w : World) (h : ¬ (1 ≤ (s.size : Int) ∧ (s.size : Int) ≤ 128)) : Calls Try.prog 28 #[.string s] w fun e w' => e = .returned (.bool false) ∧ w = w' := by
  go_enter Try.func28, Try.ntmps28
  go_wp2_with (go_at_call 34; refine (in_no _ _ _ _ h).mono ?_; rintro e w' ⟨rfl, rfl⟩)
  go_ret
  exact ⟨rfl, rfl⟩

/-- What making a pointer to a block answers. -/
def ofPost (a b l : Int) (s : ByteArray) (w : World) (r : Ending) (w' : World) : Prop :=
  Below w.heap.size w w' ∧
  ((((1 ≤ (s.size : Int) ∧ (s.size : Int) ≤ 128) ∧ isOk a b s.size (sumT s.data.toList) l = true) ∧ r = .returned (.tuple #[.agg #[.int .i64 a, .int .i64 b, .int .i64 s.size, .int .i64 (sumT s.data.toList), .int .i64 l], .bool true])) ∨
   (¬ ((1 ≤ (s.size : Int) ∧ (s.size : Int) ≤ 128) ∧ isOk a b s.size (sumT s.data.toList) l = true) ∧ r = .returned (.tuple #[.agg #[.int .i64 0, .int .i64 0, .int .i64 0, .int .i64 0, .int .i64 0], .bool false])))

set_option maxHeartbeats 1000000 in
theorem impl_of (a b l : Int) (s : ByteArray) (w : World) : Calls Try.prog 10 #[.int .i64 a, .int .i64 b, .int .i64 l, .string s] w (ofPost a b l s w) := by
  by_cases hs : 1 ≤ (s.size : Int) ∧ (s.size : Int) ≤ 128
  · have hO := fun w => m_ok a b s.size (sumT s.data.toList) l w
    have hS := fun w => impl_sum s w (by unfold maxLen; omega)
    unfold ofPost
    obtain ⟨z, hz⟩ : ∃ z, z = sumT s.data.toList := ⟨_, rfl⟩
    rw [← hz] at hO hS ⊢
    clear hz
    by_cases hk : isOk a b s.size z l = true
    · rw [hk] at hO
      have HK := Lib.hid hk
      clear hk
      go_enter Try.func10, Try.ntmps10
      go_wp2_with (first | (go_at_call 26; refine (iblock_yes _ _ hs).mono ?_; rintro e w' ⟨rfl, rfl⟩) | (go_at_call 17; refine (hS _).mono ?_; rintro e w' ⟨rfl, rfl⟩) | (go_at_call 27; refine (hO _).mono ?_; rintro e w' ⟨rfl, rfl⟩))
      refine bodyPost_ret (v := .tuple #[.agg #[.int .i64 a, .int .i64 b, .int .i64 s.size, .int .i64 z, .int .i64 l], .bool true]) ?_ rfl ⟨(by repeat' (first | exact Below.refl _ _ | refine bel_new ?_ _ | refine Below.drew ?_)), .inl ⟨⟨hs, HK.out⟩, rfl⟩⟩
      rw [results_cell_tmp rfl]
      go_simp
    · have hk' : isOk a b s.size z l = false := by simpa using hk
      rw [hk'] at hO
      have HK := Lib.hid hk
      clear hk hk'
      go_enter Try.func10, Try.ntmps10
      go_wp2_with (first | (go_at_call 26; refine (iblock_yes _ _ hs).mono ?_; rintro e w' ⟨rfl, rfl⟩) | (go_at_call 17; refine (hS _).mono ?_; rintro e w' ⟨rfl, rfl⟩) | (go_at_call 27; refine (hO _).mono ?_; rintro e w' ⟨rfl, rfl⟩))
      refine bodyPost_ret (v := .tuple #[.agg #[.int .i64 0, .int .i64 0, .int .i64 0, .int .i64 0, .int .i64 0], .bool false]) ?_ rfl ⟨(by repeat' (first | exact Below.refl _ _ | refine bel_new ?_ _ | refine Below.drew ?_)), .inr ⟨fun h => HK.out h.2, rfl⟩⟩
      rw [results_cell_tmp rfl]
      go_simp
  · go_enter Try.func10, Try.ntmps10
    go_wp2_with (first | (go_at_call 26; refine (iblock_no _ _ hs).mono ?_; rintro e w' ⟨rfl, rfl⟩))
    refine bodyPost_ret (v := .tuple #[.agg #[.int .i64 0, .int .i64 0, .int .i64 0, .int .i64 0, .int .i64 0], .bool false]) ?_ rfl ⟨(by repeat' (first | exact Below.refl _ _ | refine bel_new ?_ _ | refine Below.drew ?_)), .inr ⟨fun h => hs h.1, rfl⟩⟩
    rw [results_cell_tmp rfl]
    go_simp

set_option maxHeartbeats 1000000 in
theorem spec_of (a b l : Int) (s : ByteArray) (w : World) : Calls Try.prog 11 #[.int .i64 a, .int .i64 b, .int .i64 l, .string s] w (ofPost a b l s w) := by
  by_cases hs : 1 ≤ (s.size : Int) ∧ (s.size : Int) ≤ 128
  · have hO := fun w => spec_ok a b s.size (sumT s.data.toList) l w
    have hS := fun w => spec_sum s w (by unfold maxLen; omega)
    unfold ofPost
    obtain ⟨z, hz⟩ : ∃ z, z = sumT s.data.toList := ⟨_, rfl⟩
    rw [← hz] at hO hS ⊢
    clear hz
    by_cases hk : isOk a b s.size z l = true
    · rw [hk] at hO
      have HK := Lib.hid hk
      clear hk
      go_enter Try.func11, Try.ntmps11
      go_wp2_with (first | (go_at_call 28; refine (sblock_yes _ _ hs).mono ?_; rintro e w' ⟨rfl, rfl⟩) | (go_at_call 29; refine (hS _).mono ?_; rintro e w' ⟨rfl, rfl⟩) | (go_at_call 18; refine (hO _).mono ?_; rintro e w' ⟨rfl, rfl⟩))
      refine bodyPost_ret (v := .tuple #[.agg #[.int .i64 a, .int .i64 b, .int .i64 s.size, .int .i64 z, .int .i64 l], .bool true]) ?_ rfl ⟨(by repeat' (first | exact Below.refl _ _ | refine bel_new ?_ _ | refine Below.drew ?_)), .inl ⟨⟨hs, HK.out⟩, rfl⟩⟩
      rw [results_cell_tmp rfl]
      go_simp
    · have hk' : isOk a b s.size z l = false := by simpa using hk
      rw [hk'] at hO
      have HK := Lib.hid hk
      clear hk hk'
      go_enter Try.func11, Try.ntmps11
      go_wp2_with (first | (go_at_call 28; refine (sblock_yes _ _ hs).mono ?_; rintro e w' ⟨rfl, rfl⟩) | (go_at_call 29; refine (hS _).mono ?_; rintro e w' ⟨rfl, rfl⟩) | (go_at_call 18; refine (hO _).mono ?_; rintro e w' ⟨rfl, rfl⟩))
      refine bodyPost_ret (v := .tuple #[.agg #[.int .i64 0, .int .i64 0, .int .i64 0, .int .i64 0, .int .i64 0], .bool false]) ?_ rfl ⟨(by repeat' (first | exact Below.refl _ _ | refine bel_new ?_ _ | refine Below.drew ?_)), .inr ⟨fun h => HK.out h.2, rfl⟩⟩
      rw [results_cell_tmp rfl]
      go_simp
  · go_enter Try.func11, Try.ntmps11
    go_wp2_with (first | (go_at_call 28; refine (sblock_no _ _ hs).mono ?_; rintro e w' ⟨rfl, rfl⟩))
    refine bodyPost_ret (v := .tuple #[.agg #[.int .i64 0, .int .i64 0, .int .i64 0, .int .i64 0, .int .i64 0], .bool false]) ?_ rfl ⟨(by repeat' (first | exact Below.refl _ _ | refine bel_new ?_ _ | refine Below.drew ?_)), .inr ⟨fun h => hs h.1, rfl⟩⟩
    rw [results_cell_tmp rfl]
    go_simp

theorem walk_ok (a b c d e : Int) (w : World) : Calls Try.prog 5 #[.agg #[.int .i64 a, .int .i64 b, .int .i64 c, .int .i64 d, .int .i64 e]] w fun r w' => r = .returned (.bool true) ∧ Below w.heap.size w w' := by
  have hI := fun w => impl_ok a b c d e w
  have hS := fun w => spec_ok a b c d e w
  obtain ⟨z, hz⟩ : ∃ z, z = isOk a b c d e := ⟨_, rfl⟩
  rw [← hz] at hI hS
  have hq : (z != z) = false := by cases z <;> rfl
  clear hz
  go_enter Try.func5, Try.ntmps5
  go_wp2_with (first | (go_at_call 19; refine (to_ptr _ _ _ _ _ _).mono ?_; rintro r w' ⟨rfl, rfl⟩) | (go_at_call 18; refine (hS _).mono ?_; rintro r w' ⟨rfl, rfl⟩) | (go_at_call 12; refine (hI _).mono ?_; rintro r w' ⟨rfl, rfl⟩))
  go_ret
  exact ⟨rfl, (by repeat' (first | exact Below.refl _ _ | refine bel_new ?_ _ | refine Below.drew ?_))⟩

theorem walk_hole (a b c d e : Int) (w : World) : Calls Try.prog 6 #[.agg #[.int .i64 a, .int .i64 b, .int .i64 c, .int .i64 d, .int .i64 e]] w fun r w' => r = .returned (.bool true) ∧ Below w.heap.size w w' := by
  have hI := fun w => impl_hole a b c d e w
  have hS := fun w => spec_hole a b c d e w
  obtain ⟨z, hz⟩ : ∃ z, z = isHole a b c d e := ⟨_, rfl⟩
  rw [← hz] at hI hS
  have hq : (z != z) = false := by cases z <;> rfl
  clear hz
  go_enter Try.func6, Try.ntmps6
  go_wp2_with (first | (go_at_call 19; refine (to_ptr _ _ _ _ _ _).mono ?_; rintro r w' ⟨rfl, rfl⟩) | (go_at_call 20; refine (hS _).mono ?_; rintro r w' ⟨rfl, rfl⟩) | (go_at_call 14; refine (hI _).mono ?_; rintro r w' ⟨rfl, rfl⟩))
  go_ret
  exact ⟨rfl, (by repeat' (first | exact Below.refl _ _ | refine bel_new ?_ _ | refine Below.drew ?_))⟩

end Go.Proofs.Ytlfggmllpbghaaa
