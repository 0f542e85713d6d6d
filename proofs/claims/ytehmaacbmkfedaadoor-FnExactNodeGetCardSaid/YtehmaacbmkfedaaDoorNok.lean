/-
  NodeOk, both sides, at every node.
-/
import Derived.Test.YtehmaacbmkfedaaDoorNok2
namespace Go.Proofs.YtehmaacbmkfedaaDoor
open Go.RowKit
set_option linter.unusedVariables false

theorem top_file : topOf 1 = 9 := rfl
theorem top_folder : topOf 2 = 1 := rfl
theorem i_nodeok (kind links size a b c d e dep many : Int) (w : World) : Calls Tryd.prog 25 #[.agg #[.int .i64 kind, .int .i64 links, .int .i64 size, .int .i64 a, .int .i64 b, .int .i64 c, .int .i64 d, .int .i64 e, .int .i64 dep, .int .i64 many]] w fun r w' => r = .returned (.bool (nodeOk ⟨kind, links, size, ⟨a, b, c, d, e⟩, dep, many⟩)) ∧ Below w.heap.size w w' := by
  have hF := fun w => i_formed a b c d e dep many w
  have hP := fun w => i_pieces kind size w
  by_cases h1 : kind = 1
  · subst h1
    have hv : nodeOk ⟨1, links, size, ⟨a, b, c, d, e⟩, dep, many⟩ = (inB (pieces 1 size) 0 16 && inB links 1 9 && formB ⟨a, b, c, d, e⟩ dep many && many == pieces 1 size) := rfl
    have hbd := pieces_bd 1 size
    rw [hv]
    have hin : ∀ m : Int, formB ⟨a, b, c, d, e⟩ dep m = true → 0 ≤ m := fun m h => by
      unfold formB at h
      simp only [Bool.and_eq_true] at h
      exact (inB_iff.1 h.1.1.1).1
    have hW := fun w => i_in links 1 9 w
    have hR := fun w => i_rule1 w
    generalize pieces 1 size = P at hP hbd ⊢
    cases h2 : inB links 1 9 with
    | false => rw [h2] at hW; rw [Bool.and_false, Bool.false_and, Bool.false_and]; exact iok1 1 links size a b c d e dep many 9 12 w hR hW
    | true =>
      rw [h2] at hW
      rw [Bool.and_true]
      cases h3 : formB ⟨a, b, c, d, e⟩ dep many with
      | false => rw [h3] at hF; rw [Bool.and_false, Bool.false_and]; exact iok2 1 links size a b c d e dep many 9 12 w hR hW hF
      | true =>
        have hm := hin many h3
        rw [h3] at hF
        rw [Bool.and_true]
        cases h4 : many == P with
        | false => rw [Bool.and_false]; exact iok3 1 links size a b c d e dep many 9 12 P w hR hW hF hP h4 (by simpa using h4)
        | true =>
          have h4' : many = P := by simpa using h4
          rw [inB_yes (by omega)]
          exact iok4 1 links size a b c d e dep many 9 12 P w hR hW hF hP h4 (by simpa using h4)
  · by_cases h2 : kind = 2
    · subst h2
      have hv : nodeOk ⟨2, links, size, ⟨a, b, c, d, e⟩, dep, many⟩ = (inB (pieces 2 size) 0 16 && inB links 1 1 && formB ⟨a, b, c, d, e⟩ dep many && many == pieces 2 size) := rfl
      have hbd := pieces_bd 2 size
      rw [hv]
      have hin : ∀ m : Int, formB ⟨a, b, c, d, e⟩ dep m = true → 0 ≤ m := fun m h => by
        unfold formB at h
        simp only [Bool.and_eq_true] at h
        exact (inB_iff.1 h.1.1.1).1
      have hW := fun w => i_in links 1 1 w
      have hR := fun w => i_rule2 w
      generalize pieces 2 size = P at hP hbd ⊢
      cases h2 : inB links 1 1 with
      | false => rw [h2] at hW; rw [Bool.and_false, Bool.false_and, Bool.false_and]; exact iok1 2 links size a b c d e dep many 1 128 w hR hW
      | true =>
        rw [h2] at hW
        rw [Bool.and_true]
        cases h3 : formB ⟨a, b, c, d, e⟩ dep many with
        | false => rw [h3] at hF; rw [Bool.and_false, Bool.false_and]; exact iok2 2 links size a b c d e dep many 1 128 w hR hW hF
        | true =>
          have hm := hin many h3
          rw [h3] at hF
          rw [Bool.and_true]
          cases h4 : many == P with
          | false => rw [Bool.and_false]; exact iok3 2 links size a b c d e dep many 1 128 P w hR hW hF hP h4 (by simpa using h4)
          | true =>
            have h4' : many = P := by simpa using h4
            rw [inB_yes (by omega)]
            exact iok4 2 links size a b c d e dep many 1 128 P w hR hW hF hP h4 (by simpa using h4)
    · have hv : nodeOk ⟨kind, links, size, ⟨a, b, c, d, e⟩, dep, many⟩ = false := nodeOk_kind h1 h2
      rw [hv]
      exact iok0 kind links size a b c d e dep many 0 0 w (fun w => i_rule0 kind h1 h2 w)

theorem s_nodeok (kind links size a b c d e dep many : Int) (w : World) : Calls Tryd.prog 20 #[.agg #[.int .i64 kind, .int .i64 links, .int .i64 size, .int .i64 a, .int .i64 b, .int .i64 c, .int .i64 d, .int .i64 e, .int .i64 dep, .int .i64 many]] w fun r w' => r = .returned (.bool (nodeOk ⟨kind, links, size, ⟨a, b, c, d, e⟩, dep, many⟩)) ∧ Below w.heap.size w w' := by
  have hP := fun w => s_pieces kind size w
  have hbd := pieces_bd kind size
  have hv : nodeOk ⟨kind, links, size, ⟨a, b, c, d, e⟩, dep, many⟩ = (inB (pieces kind size) 0 16 && inB links 1 (topOf kind) && (inB many 0 16 && dep == (depthOf many : Int) && isOk a b c d e && (isHole a b c d e || e == dep)) && many == pieces kind size) := rfl
  rw [hv]
  generalize pieces kind size = P at hP hbd ⊢
  have hO : ∀ w : World, Calls Tryd.prog 43 #[.agg #[.int .i64 a, .int .i64 b, .int .i64 c, .int .i64 d, .int .i64 e]] w fun r w' => r = .returned (.bool (isOk a b c d e)) ∧ Below w.heap.size w w' := fun w => (spec_pok a b c d e w).mono fun r w' ⟨h1, h2⟩ => ⟨h1, h2 ▸ bel_new (bel_new (Below.refl _ _) _) _⟩
  have hM : ∀ w : World, Calls Tryd.prog 44 #[.agg #[.int .i64 a, .int .i64 b, .int .i64 c, .int .i64 d, .int .i64 e]] w fun r w' => r = .returned (.bool (isHole a b c d e)) ∧ Below w.heap.size w w' := fun w => (spec_hole a b c d e w).mono fun r w' ⟨h1, h2⟩ => ⟨h1, h2 ▸ bel_new (Below.refl _ _) _⟩
  by_cases h1 : P < 0
  · rw [inB_no (by omega)]
    simp only [Bool.false_and]
    exact sok1 kind links size a b c d e dep many P w hP (decide_eq_true h1)
  · rw [inB_yes (show 0 ≤ P ∧ P ≤ 16 by omega), Bool.true_and]
    have hl : decide (P < 0) = false := decide_eq_false h1
    by_cases h2 : many = P
    · subst h2
      have hm : (many != many) = false := by simp
      have hD := fun w => spec_depth many w
      rw [inB_yes (show 0 ≤ many ∧ many ≤ 16 by omega), Bool.true_and, beq_self_eq_true, Bool.and_true]
      generalize (depthOf many : Int) = D at hD ⊢
      cases h3 : dep == D with
      | false =>
        simp only [Bool.false_and, Bool.and_false]
        exact sok3 kind links size a b c d e dep many many D w hP hl hm hD (by rw [bne, h3]; rfl)
      | true =>
        have hd : (dep != D) = false := by rw [bne, h3]; rfl
        rw [Bool.true_and]
        cases h4 : isOk a b c d e with
        | false =>
          rw [h4] at hO
          simp only [Bool.false_and, Bool.and_false]
          exact sok4 kind links size a b c d e dep many many D w hP hl hm hD hd hO
        | true =>
          rw [h4] at hO
          rw [Bool.true_and]
          by_cases hk : kind = 2
          · subst hk
            rw [top_folder]
            have hN := fun w => s_in links 1 1 w
            cases h5 : inB links 1 1 with
            | false => rw [h5] at hN; rw [Bool.false_and]; exact sok5d 2 links size a b c d e dep many many D w hP hl hm hD hd hO rfl rfl hN
            | true =>
              rw [h5] at hN
              rw [Bool.true_and]
              cases h6 : isHole a b c d e with
              | true => rw [h6] at hM; rw [Bool.true_or]; exact sok6d 2 links size a b c d e dep many many D w hP hl hm hD hd hO rfl rfl hN hM
              | false =>
                rw [h6] at hM
                rw [Bool.false_or]
                cases h7 : e == dep with
                | true => exact sok7d 2 links size a b c d e dep many many D w hP hl hm hD hd hO rfl rfl hN hM h7 (by simpa using h7)
                | false => exact sok8d 2 links size a b c d e dep many many D w hP hl hm hD hd hO rfl rfl hN hM h7 (by simpa using h7)
          · have hk' : (kind == 2) = false := by simpa using hk
            have ht : topOf kind = 9 := by unfold topOf; rw [if_neg hk]
            rw [ht]
            have hN := fun w => s_in links 1 9 w
            cases h5 : inB links 1 9 with
            | false => rw [h5] at hN; rw [Bool.false_and]; exact sok5f kind links size a b c d e dep many many D w hP hl hm hD hd hO hk' (by simpa using hk') hN
            | true =>
              rw [h5] at hN
              rw [Bool.true_and]
              cases h6 : isHole a b c d e with
              | true => rw [h6] at hM; rw [Bool.true_or]; exact sok6f kind links size a b c d e dep many many D w hP hl hm hD hd hO hk' (by simpa using hk') hN hM
              | false =>
                rw [h6] at hM
                rw [Bool.false_or]
                cases h7 : e == dep with
                | true => exact sok7f kind links size a b c d e dep many many D w hP hl hm hD hd hO hk' (by simpa using hk') hN hM h7 (by simpa using h7)
                | false => exact sok8f kind links size a b c d e dep many many D w hP hl hm hD hd hO hk' (by simpa using hk') hN hM h7 (by simpa using h7)
    · have hm : (many != P) = true := by rw [bne_iff_ne]; exact h2
      have hq : (many == P) = false := by simpa using h2
      rw [hq, Bool.and_false]
      exact sok2 kind links size a b c d e dep many P w hP hl hm
end Go.Proofs.YtehmaacbmkfedaaDoor
