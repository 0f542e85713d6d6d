/-
  What is used of the rows of a space, read into a map.
-/
import Derived.Test.YtmnamclndpfjnaaSpc
namespace Go.Proofs.Ytmnamclndpfjnaa
open Go.RowKit

/-- The first k rows. -/
def upto (U : Us) (k : Nat) : Us := U.take k ++ List.replicate (64 - k) (0, 0)
theorem upto_zero (U : Us) : upto U 0 = zeroU := by simp [upto, zeroU]
theorem upto_all {U : Us} (h : U.length = 64) : upto U 64 = U := by
  unfold upto
  rw [List.take_of_length_le (by omega)]
  simp
theorem upto_set {U : Us} (h : U.length = 64) {k : Nat} (hk : k < 64) : (upto U k).set k (U.getD k (0, 0)) = upto U (k + 1) := by
  unfold upto
  have hl : (U.take k).length = k := by simp; omega
  obtain ⟨m, hm⟩ : ∃ m, 64 - k = m + 1 := ⟨64 - k - 1, by omega⟩
  rw [hm, show 64 - (k + 1) = m by omega, List.set_append_right _ _ (by omega), hl, Nat.sub_self, List.replicate_succ, List.set_cons_zero,
    List.take_succ_eq_append_getElem (by omega : k < U.length), List.append_assoc, List.getD_eq_getElem?_getD, List.getElem?_eq_getElem (by omega : k < U.length)]
  rfl
theorem upto_same {U : Us} (h : U.length = 64) {k : Nat} (hk : k < 64) (hz : U.getD k (0, 0) = (0, 0)) : upto U (k + 1) = upto U k := by
  rw [← upto_set h hk, hz]
  apply List.ext_getElem?
  intro i
  by_cases hi : i = k
  · subst hi
    rw [List.getElem?_set_self (by simp [upto]; omega)]
    unfold upto
    rw [List.getElem?_append_right (by simp; omega), List.length_take, Nat.min_eq_left (by omega), Nat.sub_self, List.getElem?_replicate, if_pos (by omega)]
  · rw [List.getElem?_set_ne (by omega)]

def UsPost (s : Sp) (w : World) (r : Ending) (w' : World) : Prop :=
  Below w.heap.size w w' ∧ ((SpOk s ∧ ∃ b, w.heap.size ≤ b ∧ r = .returned (.tuple #[.map (some b), .bool true]) ∧ UMap w' Try.prog 3 b (usOf s)) ∨ (¬ SpOk s ∧ r = .returned (.tuple #[.map none, .bool false])))

theorem free_yes {x y : Int} (h : (x, y) = (0, 0)) : freeB x y = true := by
  cases h
  rfl
theorem free_no {x y : Int} (h : (x, y) ≠ (0, 0)) : freeB x y = false := by
  cases e : freeB x y with
  | false => rfl
  | true =>
    simp [freeB] at e
    exact absurd (by rw [e.1, e.2]) h
theorem row_use {k : Nat} {x y : Int} (hne : (x, y) ≠ (0, 0)) : rowOk k (x, y) ↔ (8 ≤ (k : Int) ∧ useB x y = true) := by
  unfold rowOk useB inB
  rw [Bool.and_eq_true, decide_eq_true_eq, decide_eq_true_eq]
  constructor
  · rintro (⟨a, b⟩ | ⟨a, b, c, d⟩)
    · simp only at a b
      exact absurd (by rw [a, b]) hne
    · exact ⟨by omega, by omega, by omega⟩
  · rintro ⟨a, b, c⟩
    exact .inr ⟨by omega, by omega, by omega, by omega⟩

set_option maxRecDepth 100000 in
set_option maxHeartbeats 4000000 in
theorem impl_uses (A B : Option Addr) (c e : Nat) (s : Sp) (w : World) (hn : s.refs.length ≤ 1048576) (hm : s.last.length ≤ 1048576) (hA : SpAt w A B s) :
    Calls Try.prog 103 #[.agg #[.slice A s.refs.length c, .slice B s.last.length e]] w (UsPost s w) := by
  by_cases h1 : s.refs.length = 64
  · by_cases h2 : s.last.length = 64
    · have hmm := @run_makeMap Try.prog
      obtain ⟨hA1, hA2⟩ := hA
      have hU : (usOf s).length = 64 := usOf_len h1 h2
      have hq1 : ((64 : Int) != 64) = false := by decide
      obtain ⟨rs, hrs⟩ : ∃ rs, rs = s.refs := ⟨_, rfl⟩
      obtain ⟨ls, hls⟩ : ∃ ls, ls = s.last := ⟨_, rfl⟩
      obtain ⟨U, hUU⟩ : ∃ U, U = usOf s := ⟨_, rfl⟩
      have hat : ∀ k, k < 64 → U.getD k (0, 0) = (rs.getD k 0, ls.getD k 0) := fun k hk => by rw [hUU, hrs, hls]; exact usOf_at h1 h2 k hk
      have hok : SpOk s ↔ ∀ i, i < 64 → rowOk i (U.getD i (0, 0)) := by rw [hUU]; exact ⟨fun h => h.2.2, fun h => ⟨h1, h2, h⟩⟩
      have hP : ∀ r w', UsPost s w r w' ↔ (Below w.heap.size w w' ∧ (((∀ i, i < 64 → rowOk i (U.getD i (0, 0))) ∧ ∃ b, w.heap.size ≤ b ∧ r = .returned (.tuple #[.map (some b), .bool true]) ∧ UMap w' Try.prog 3 b U) ∨ (¬ (∀ i, i < 64 → rowOk i (U.getD i (0, 0))) ∧ r = .returned (.tuple #[.map none, .bool false])))) := fun r w' => by
        unfold UsPost
        rw [hok, hUU]
      rw [← hrs] at hA1 h1
      rw [← hls] at hA2 h2
      rw [← hUU] at hU
      rw [← hrs, ← hls]
      refine Calls.mono ?_ (fun r w' h => (hP r w').2 h)
      clear hn hm hrs hls hUU hok hP
      have HAT := Lib.hid hat
      have H1 := Lib.hid h1
      have H2 := Lib.hid h2
      have HU := Lib.hid hU
      rw [h1, h2]
      clear hat h1 h2 hU
      have b0 := B2.new w 25 (.slice A 64 c) (.slice B 64 e)
      go_enter Try.func103, Try.ntmps103
      go_wp2
      go_loopw [22] (fun i wr => ∃ k : Nat, k ≤ 64 ∧ i = .int .i64 k ∧ (∀ j, j < k → rowOk j (U.getD j (0, 0))) ∧ UMap wr Try.prog 3 (w.heap.size + 1) (upto U k) ∧ Below w.heap.size w wr ∧ B2 wr w.heap.size 25 (.slice A 64 c) (.slice B 64 e)) (fun i _ => 64 - (intOf i).toNat)
      case atStart =>
        have hM := UMap.made (w.alloc (.cells #[.slice A 64 c, .slice B 64 e] 25)) Try.prog 3
        rw [World.size_alloc] at hM
        exact ⟨0, by omega, rfl, fun j hj => absurd hj (Nat.not_lt_zero j), by rw [upto_zero]; exact hM, bel_new (bel_new (Below.refl _ _) _) _, b0.alloc _⟩
      case round =>
        obtain ⟨k, hk, rfl, hj, hM, hB, hb⟩ := hrel
        have HJ := Lib.hid hj
        clear b0 hj
        by_cases hlt : k < 64
        · obtain ⟨b1, o1, rfl, hl1, hc1⟩ := (hA1.below hB).int k (by have := H1.out; omega)
          obtain ⟨b2, o2, rfl, hl2, hc2⟩ := (hA2.below hB).int k (by have := H2.out; omega)
          have hu := HAT.out k hlt
          rw [List.getD_eq_getElem?_getD, List.getD_eq_getElem?_getD, List.getD_eq_getElem?_getD, List.getElem?_eq_getElem (by have := H1.out; omega : k < rs.length), List.getElem?_eq_getElem (by have := H2.out; omega : k < ls.length)] at hu
          obtain ⟨x, hx⟩ : ∃ x, x = rs[k]'(by have := H1.out; omega) := ⟨_, rfl⟩
          obtain ⟨y, hy⟩ : ∃ y, y = ls[k]'(by have := H2.out; omega) := ⟨_, rfl⟩
          rw [← hx] at hc1
          rw [← hy] at hc2
          simp only [← hx, ← hy, Option.getD_some, ← List.getD_eq_getElem?_getD] at hu
          have hu2 : U.getD k (0, 0) = (x, y) := by rw [List.getD_eq_getElem?_getD]; exact hu
          have HX := Lib.hid hu2
          have hwl := hb.lt
          obtain ⟨⟨x0, x1⟩, _, _⟩ := hb.cells
          have hlt' : (k : Int) < 64 := by omega
          have hF := fun w => i_free x y w
          clear hx hy hu hu2 hA1 hA2
          by_cases hz : (x, y) = (0, 0)
          · rw [free_yes hz] at hF
            have hnew : UMap wr Try.prog 3 (w.heap.size + 1) (upto U (k + 1)) := by rw [upto_same HU.out hlt (by rw [HX.out]; exact hz)]; exact hM
            have HZ := Lib.hid hz
            clear hz
            go_wp2_with (go_at_call 117; refine (hF _).mono ?_; rintro r w' ⟨rfl, rfl⟩)
            go_roundw
            case rel => exact ⟨k + 1, by omega, by go_num, fun j hj => by
              rcases Nat.lt_succ_iff_lt_or_eq.1 hj with h | h
              · exact HJ.out j h
              · rw [h, HX.out]; exact .inl ⟨congrArg Prod.fst HZ.out, congrArg Prod.snd HZ.out⟩, hnew.below (bel_new (bel_new (Below.refl _ _) _) _), bel_new (bel_new hB _) _, (hb.alloc _).alloc _⟩
            case measure => simp [intOf]; omega
          · rw [free_no hz] at hF
            have hR := fun w => i_row (k : Int) w
            have hE := fun w => i_use x y w
            by_cases h8 : inB (k : Int) 8 63 = true
            · rw [h8] at hR
              by_cases hgood : useB x y = true
              · rw [hgood] at hE
                have hro : rowOk k (x, y) := (row_use hz).2 ⟨by unfold inB at h8; rw [decide_eq_true_eq] at h8; exact h8.1, hgood⟩
                have hnew : (upto U k).set k (x, y) = upto U (k + 1) := by rw [← HX.out]; exact upto_set HU.out hlt
                have HZ := Lib.hid hz
                have HRO := Lib.hid hro
                have HN := Lib.hid hnew
                clear hz h8 hgood hro hnew
                go_wp2_with (first
                  | (go_at_call 117; refine (hF _).mono ?_; rintro r w' ⟨rfl, rfl⟩)
                  | (go_at_call 91; refine (hR _).mono ?_; rintro r w' ⟨rfl, rfl⟩)
                  | (go_at_call 118; refine (hE _).mono ?_; rintro r w' ⟨rfl, rfl⟩)
                  | (at_mapUpdate; refine wpList_uput _ uty rfl _ _ _ rfl rfl (hM.below (bel_new (bel_new (bel_new (Below.refl _ _) _) _) _)) _ (x, y) rfl rfl (by omega) (by omega) HZ.out ?_; intro w5 hM5 hg5; rw [Int.toNat_natCast, HN.out] at hM5))
                have B3 := bel_new (bel_new (bel_new hB (.cells #[.int .i64 x, .int .i64 y] 113)) (.cells #[.int .i64 x, .int .i64 y] 113)) (.cells #[.int .i64 x, .int .i64 y] 113)
                go_roundw
                case rel => exact ⟨k + 1, by omega, by go_num, fun j hj => by
                  rcases Nat.lt_succ_iff_lt_or_eq.1 hj with h | h
                  · exact HJ.out j h
                  · rw [h, HX.out]; exact HRO.out, hM5, B3.grown hg5 B3.size (fun k e => by cases e; omega), (((hb.alloc _).alloc _).alloc _).grown hg5 (by simp)⟩
                case measure => simp [intOf]; omega
              · have hg2 : useB x y = false := by simpa using hgood
                rw [hg2] at hE
                have hro : ¬ (∀ i, i < 64 → rowOk i (U.getD i (0, 0))) := fun h => by
                  have := h k hlt
                  rw [HX.out] at this
                  exact hgood ((row_use hz).1 this).2
                clear hz h8 hgood hg2
                go_wp2_with (first
                  | (go_at_call 117; refine (hF _).mono ?_; rintro r w' ⟨rfl, rfl⟩)
                  | (go_at_call 91; refine (hR _).mono ?_; rintro r w' ⟨rfl, rfl⟩)
                  | (go_at_call 118; refine (hE _).mono ?_; rintro r w' ⟨rfl, rfl⟩))
                go_ret2
                exact ⟨bel_new (bel_new (bel_new hB _) _) _, .inr ⟨hro, rfl⟩⟩
            · have h82 : inB (k : Int) 8 63 = false := by simpa using h8
              rw [h82] at hR
              have hro : ¬ (∀ i, i < 64 → rowOk i (U.getD i (0, 0))) := fun h => by
                have := h k hlt
                rw [HX.out] at this
                exact h8 (inB_yes ⟨((row_use hz).1 this).1, by omega⟩)
              clear hz h8 h82
              go_wp2_with (first
                | (go_at_call 117; refine (hF _).mono ?_; rintro r w' ⟨rfl, rfl⟩)
                | (go_at_call 91; refine (hR _).mono ?_; rintro r w' ⟨rfl, rfl⟩))
              go_ret2
              exact ⟨bel_new (bel_new hB _) _, .inr ⟨hro, rfl⟩⟩
        · have hke : k = 64 := by omega
          subst hke
          rw [upto_all HU.out] at hM
          go_wp2_with fail
          go_ret2
          exact ⟨hB, .inl ⟨HJ.out, _, Nat.le_succ _, rfl, hM⟩⟩
    · have hno : ¬ SpOk s := fun h => h2 h.2.1
      have hq1 : ((64 : Int) != 64) = false := by decide
      have hq2 : ((s.last.length : Int) != 64) = true := by simp; omega
      rw [h1]
      have HNO := Lib.hid hno
      clear hno h1 h2 hA hn hm
      go_enter Try.func103, Try.ntmps103
      go_wp2_with fail
      go_ret2
      exact ⟨bel_new (Below.refl _ _) _, .inr ⟨HNO.out, rfl⟩⟩
  · have hno : ¬ SpOk s := fun h => h1 h.1
    have hq1 : ((s.refs.length : Int) != 64) = true := by simp; omega
    have HNO := Lib.hid hno
    clear hno h1 hA hn hm
    go_enter Try.func103, Try.ntmps103
    go_wp2_with fail
    go_ret2
    exact ⟨bel_new (Below.refl _ _) _, .inr ⟨HNO.out, rfl⟩⟩
theorem uses_yes (A B : Option Addr) (c e : Nat) (s : Sp) (w : World) (hs : SpOk s) (hA : SpAt w A B s) :
    Calls Try.prog 103 #[.agg #[.slice A s.refs.length c, .slice B s.last.length e]] w fun r w' => ∃ b, w.heap.size ≤ b ∧ r = .returned (.tuple #[.map (some b), .bool true]) ∧ UMap w' Try.prog 3 b (usOf s) ∧ Below w.heap.size w w' :=
  (impl_uses A B c e s w (by rw [hs.1]; omega) (by rw [hs.2.1]; omega) hA).mono fun r w' ⟨h1, h2⟩ => by
    rcases h2 with ⟨_, b, h3, h4, h5⟩ | ⟨h3, _⟩
    · exact ⟨b, h3, h4, h5, h1⟩
    · exact absurd hs h3
theorem uses_no (A B : Option Addr) (c e : Nat) (s : Sp) (w : World) (hn : s.refs.length ≤ 1048576) (hm : s.last.length ≤ 1048576) (hs : ¬ SpOk s) (hA : SpAt w A B s) :
    Calls Try.prog 103 #[.agg #[.slice A s.refs.length c, .slice B s.last.length e]] w fun r w' => r = .returned (.tuple #[.map none, .bool false]) ∧ Below w.heap.size w w' :=
  (impl_uses A B c e s w hn hm hA).mono fun r w' ⟨h1, h2⟩ => by
    rcases h2 with ⟨h3, _⟩ | ⟨_, h4⟩
    · exact absurd h3 hs
    · exact ⟨h4, h1⟩
end Go.Proofs.Ytmnamclndpfjnaa
