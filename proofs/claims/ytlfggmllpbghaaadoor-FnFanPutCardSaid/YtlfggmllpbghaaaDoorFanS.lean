/-
  FanPut, the model's: the text of a list of pointers, or none.
-/
import Derived.Test.YtlfggmllpbghaaaDoorPtrs
namespace Go.Proofs.YtlfggmllpbghaaaDoor
open Go.RowKit

set_option maxRecDepth 100000 in
set_option maxHeartbeats 4000000 in
theorem spec_fput (ps : List P5) (b cap : Nat) (w : World) (Y : PtrsAt w b ps) :
    Calls Tryd.prog 28 #[.slice (some ⟨b, 0, none⟩) ps.length cap] w fun r w' => r = .returned (.tuple #[.string (fanG ps).1, .bool (fanG ps).2]) ∧ Below w.heap.size w w' := by
  by_cases h4 : ps.length = 4
  · skip
    have hyes := @fanG_yes ps h4
    have hno := @fanG_no ps
    obtain ⟨r, hr⟩ : ∃ r, r = fanG ps := ⟨_, rfl⟩
    rw [← hr] at hyes hno ⊢
    clear hr
    rw [h4]
    go_enter Tryd.func28, Tryd.ntmps28
    go_wp2_with fail
    go_loopg [4, 5, 6] 4 (fun gh out sm i wr => ∃ (j : Nat), gh = 4 - j ∧ j ≤ 4 ∧ i = .int .i64 j ∧ out = .string (strOf (textOf (ps.take j))) ∧ sm = .bool (someP (ps.take j)) ∧ (∀ k (hk : k < ps.length), k < j → (ps[k]).ok = true) ∧ PtrsAt wr b ps ∧ Below w.heap.size w wr)
    case atStart => exact ⟨0, by omega, by omega, rfl, rfl, rfl, by omega, Y, Below.refl _ _⟩
    case round =>
      obtain ⟨j, hg, hj, rfl, rfl, rfl, hok, hY, hb⟩ := hrel
      have HG := Lib.hid hg
      clear hg Y
      by_cases hlt : j < 4
      · have hlt' : (j : Int) < 4 := by omega
        have hjp : j < ps.length := by omega
        obtain ⟨a, c, d, e, f, hp⟩ : ∃ a c d e f, ps[j] = ⟨a, c, d, e, f⟩ := ⟨_, _, _, _, _, rfl⟩
        obtain ⟨y0, y1, y2, y3, y4⟩ := hY.cell j hjp hp
        have hO : ∀ W, Calls Tryd.prog 16 #[.agg #[.int .i64 a, .int .i64 c, .int .i64 d, .int .i64 e, .int .i64 f]] W fun r w' => r = .returned (.bool (isOk a c d e f)) ∧ Below W.heap.size W w' := fun W => (spec_ok a c d e f W).mono fun r w' ⟨h1, h2⟩ => ⟨h1, h2 ▸ bel_new (bel_new (Below.refl _ _) _) _⟩
        by_cases hk : isOk a c d e f = true
        · rw [hk] at hO
          have HK : Hid (∀ k (hk : k < ps.length), k < j + 1 → (ps[k]).ok = true) := Lib.hid (fun k hk2 hkj => by
            by_cases e1 : k = j
            · subst e1
              rw [hp]
              exact hk
            · exact hok k hk2 (by omega))
          have hM : ∀ W, Calls Tryd.prog 20 #[.agg #[.int .i64 a, .int .i64 c, .int .i64 d, .int .i64 e, .int .i64 f]] W fun r w' => r = .returned (.bool (isHole a c d e f)) ∧ Below W.heap.size W w' := fun W => (spec_hole a c d e f W).mono fun r w' ⟨h1, h2⟩ => ⟨h1, h2 ▸ bel_new (Below.refl _ _) _⟩
          have hT := fun W => spec_put a c d e f W
          have hsm := someP_more ps j hjp
          rw [hp] at hsm
          have hsm2 : someP (ps.take (j + 1)) = (someP (ps.take j) || !isHole a c d e f) := hsm
          have hone := textOf_one ps j hjp
          have hmore := textOf_more ps j hjp
          rw [hp] at hone hmore
          have hone2 : j = 0 → textOf (ps.take (j + 1)) = putT a c d e f := hone
          have hmore2 : j ≠ 0 → textOf (ps.take (j + 1)) = textOf (ps.take j) ++ [44] ++ putT a c d e f := hmore
          have hz : j = 0 → textOf (ps.take j) = [] := fun h => by rw [h]; rfl
          have hlen := textOf_short (ps.take j)
          rw [List.length_take] at hlen
          have hps := putT_short a c d e f
          obtain ⟨x, hx⟩ : ∃ x, x = putT a c d e f := ⟨_, rfl⟩
          obtain ⟨z, hz2⟩ : ∃ z, z = isHole a c d e f := ⟨_, rfl⟩
          obtain ⟨T, hTe⟩ : ∃ T, T = textOf (ps.take j) := ⟨_, rfl⟩
          obtain ⟨s, hs⟩ : ∃ s, s = someP (ps.take j) := ⟨_, rfl⟩
          rw [← hx] at hT hone2 hmore2 hps
          rw [← hz2] at hM hsm2
          rw [← hTe] at hmore2 hz hlen ⊢
          rw [← hs] at hsm2 ⊢
          have HS := Lib.hid hsm2
          have H1 := Lib.hid hone2
          have H2 := Lib.hid hmore2
          have ad0 : ∀ w, (Op.stringOp .add ⟨#[]⟩ (strOf x)).run Tryd.prog w = .ok (.string (strOf x)) w := fun w => add_strs Tryd.prog [] x (by simp; omega) w
          have ad1 : ∀ w, (Op.stringOp .add (strOf T) ⟨#[44]⟩).run Tryd.prog w = .ok (.string (strOf (T ++ [44]))) w := fun w => add_strs Tryd.prog T [44] (by simp; omega) w
          have ad2 : ∀ w, (Op.stringOp .add (strOf (T ++ [44])) (strOf x)).run Tryd.prog w = .ok (.string (strOf (T ++ [44] ++ x))) w := fun w => add_strs Tryd.prog (T ++ [44]) x (by simp; omega) w
          clear hsm hsm2 hone hone2 hmore hmore2 hx hz2 hTe hs hk hok hno hyes
          by_cases hj0 : j = 0
          · subst hj0
            obtain ⟨y0, y1, y2, y3, y4⟩ := hY.cell0 hjp hp
            have ad3 : ∀ w, (Op.stringOp .add (strOf T) (strOf x)).run Tryd.prog w = .ok (.string (strOf x)) w := by
              rw [hz rfl]
              exact ad0
            have H3 := Lib.hid (H1.out rfl)
            clear ad0 ad1 ad2 H1 H2 hz
            cases s <;> cases z
            all_goals go_wp2_with (first | (go_at_call 16; refine (hO _).mono ?_; rintro r w1 ⟨rfl, hb1⟩; have BB := bel_then hb hb1; have YY := hY.below hb1; obtain ⟨y0, y1, y2, y3, y4⟩ := YY.cell0 hjp hp) | (go_at_call 20; refine (hM _).mono ?_; rintro r w2 ⟨rfl, hb2⟩; have BB := bel_then BB hb2; have YY := YY.below hb2; obtain ⟨y0, y1, y2, y3, y4⟩ := YY.cell0 hjp hp) | (go_at_call 22; refine (hT _).mono ?_; rintro r w3 ⟨rfl, hb3⟩; have BB := bel_then BB hb3; have YY := YY.below hb3))
            all_goals go_roundg (4 - (0 + 1))
            all_goals first
              | (have := HG.out; omega)
              | exact ⟨0 + 1, rfl, by omega, by go_num, (by first | (rw [H3.out]; done) | (rw [H3.out]; simp)), by rw [HS.out]; rfl, HK.out, YY, BB⟩
          · have hj0' : (0 : Int) < (j : Int) := by omega
            have H3 := Lib.hid (H2.out hj0)
            clear ad0 H1 H2 hz
            cases s <;> cases z
            all_goals go_wp2_with (first | (go_at_call 16; refine (hO _).mono ?_; rintro r w1 ⟨rfl, hb1⟩; have BB := bel_then hb hb1; have YY := hY.below hb1; obtain ⟨y0, y1, y2, y3, y4⟩ := YY.cell j hjp hp) | (go_at_call 20; refine (hM _).mono ?_; rintro r w2 ⟨rfl, hb2⟩; have BB := bel_then BB hb2; have YY := YY.below hb2; obtain ⟨y0, y1, y2, y3, y4⟩ := YY.cell j hjp hp) | (go_at_call 22; refine (hT _).mono ?_; rintro r w3 ⟨rfl, hb3⟩; have BB := bel_then BB hb3; have YY := YY.below hb3))
            all_goals go_roundg (4 - (j + 1))
            all_goals first
              | (have := HG.out; omega)
              | exact ⟨j + 1, rfl, by omega, by go_num, (by first | (rw [H3.out]; done) | (rw [H3.out]; simp)), by rw [HS.out]; rfl, HK.out, YY, BB⟩
        · have hk' : isOk a c d e f = false := by simpa using hk
          rw [hk'] at hO
          have hv : r = (⟨#[]⟩, false) := hno (fun h => by
            have := h.2.1 _ (List.getElem_mem hjp)
            rw [hp] at this
            exact hk this)
          subst hv
          clear hk hk' hno hyes hok hp
          go_wp2_with (go_at_call 16; refine (hO _).mono ?_; rintro r w1 ⟨rfl, hb1⟩)
          go_ret2
          exact ⟨rfl, bel_then hb hb1⟩
      · obtain rfl : j = 4 := by omega
        have hall : ∀ p ∈ ps, p.ok = true := fun p hp => by
          obtain ⟨k, hk, rfl⟩ := List.getElem_of_mem hp
          exact hok k hk (by omega)
        have ht : ps.take 4 = ps := List.take_of_length_le (by omega)
        rw [ht]
        by_cases hs : someP ps = true
        · have hv := hyes hall hs
          rw [hs]
          obtain ⟨T, hT⟩ : ∃ T, T = textOf ps := ⟨_, rfl⟩
          rw [← hT] at hv ⊢
          subst hv
          clear hno hyes hok hall hs hT
          go_wp2_with fail
          go_ret2
          exact ⟨rfl, hb⟩
        · have hs' : someP ps = false := by simpa using hs
          have hv : r = (⟨#[]⟩, false) := hno (fun h => hs h.2.2)
          rw [hs']
          obtain ⟨T, hT⟩ : ∃ T, T = textOf ps := ⟨_, rfl⟩
          rw [← hT]
          subst hv
          clear hno hyes hok hall hs hs' hT
          go_wp2_with fail
          go_ret2
          exact ⟨rfl, hb⟩
  · have hq5 : ((ps.length : Int) != 4) = true := by rw [bne_iff_ne]; omega
    rw [fanG_no (fun h => h4 h.1)]
    obtain ⟨n, hn⟩ : ∃ n, n = ps.length := ⟨_, rfl⟩
    rw [← hn] at hq5 ⊢
    clear h4 hn Y
    go_enter Tryd.func28, Tryd.ntmps28
    go_wp2_with fail
    go_ret2
    exact ⟨rfl, Below.refl _ _⟩
end Go.Proofs.YtlfggmllpbghaaaDoor
