/-
  What a law writes into a list of pointers that it was handed, and reads again.
-/
import Derived.Test.YtlfggmllpbghaaaDoorFanH
namespace Go.Proofs.YtlfggmllpbghaaaDoor
open Go.RowKit

def marksV (m : Nat) : List Value := (List.range m).map fun i : Nat => .int .i64 ((i : Int) + 1)
theorem marksV_len (m : Nat) : (marksV m).length = m := by simp [marksV]
theorem marksV_five (j : Nat) : marksV (5 * (j + 1)) = marksV (5 * j) ++ [.int .i64 (1 + 5 * (j : Int)), .int .i64 (1 + 5 * (j : Int) + 1), .int .i64 (1 + 5 * (j : Int) + 1 + 1), .int .i64 (1 + 5 * (j : Int) + 1 + 1 + 1), .int .i64 (1 + 5 * (j : Int) + 1 + 1 + 1 + 1)] := by
  unfold marksV
  rw [show 5 * (j + 1) = 5 * j + 1 + 1 + 1 + 1 + 1 by omega]
  simp only [List.range_succ, List.map_append, List.map_cons, List.map_nil, List.append_assoc, List.cons_append, List.nil_append]
  congr 2
  · congr 1; omega
  congr 1
  · congr 1; omega
  congr 1
  · congr 1; omega
  congr 1
  · congr 1; omega
  congr 1
  congr 1; omega
theorem marksV_at (n j k : Nat) (hj : j < n) (hk : k < 5) : (marksV (5 * n))[j * 5 + k]? = some (.int .i64 (1 + 5 * (j : Int) + k)) := by
  unfold marksV
  rw [List.getElem?_map, List.getElem?_range (by omega)]
  simp only [Option.map_some, Option.some.injEq, Value.int.injEq, true_and]
  omega

set_option maxRecDepth 100000 in
set_option maxHeartbeats 4000000 in
theorem mark_ptrs (t : TypeId) (base g c n : Nat) (xs : List Value) (w : World) (hn : n ≤ 1048576) (ho : w.ownsRow base t 5 (.slice (some ⟨g, 0, none⟩) n c) n xs) :
    Calls Tryd.prog 38 #[.slice (some ⟨g, 0, none⟩) n c, .int .i64 1] w fun e w' => e = .returned (.int .i64 (1 + 5 * (n : Int))) ∧ w'.ownsRow base t 5 (.slice (some ⟨g, 0, none⟩) n c) n (marksV (5 * n)) ∧ w.grownBy w' (some g) := by
  have hxl : xs.length = 5 * n := by have := ho.1; omega
  go_enter Tryd.func38, Tryd.ntmps38
  go_wp2
  go_loopw [1, 5] (fun kv i wr => ∃ j : Nat, j ≤ n ∧ i = .int .i64 j ∧ kv = .int .i64 (1 + 5 * (j : Int)) ∧ wr.ownsRow base t 5 (.slice (some ⟨g, 0, none⟩) n c) n (marksV (5 * j) ++ xs.drop (5 * j)) ∧ w.grownBy wr (some g)) (fun _ i _ => n - (intOf i).toNat)
  case atStart => exact ⟨0, Nat.zero_le _, rfl, rfl, by simpa [marksV] using ho, World.grownBy.refl w (some g)⟩
  case round =>
    obtain ⟨j, hj, rfl, rfl, hr, hgr⟩ := hrel
    clear ho
    by_cases hlt : j < n
    · have hlt' : (j : Int) < (n : Int) := by omega
      obtain ⟨x0, x1, x2, x3, x4, R, hR, hd⟩ : ∃ x0 x1 x2 x3 x4 R, xs.drop (5 * j) = x0 :: x1 :: x2 :: x3 :: x4 :: R ∧ R = xs.drop (5 * (j + 1)) := by
        have hl : (xs.drop (5 * j)).length = 5 * n - 5 * j := by rw [List.length_drop, hxl]
        match h : xs.drop (5 * j) with
        | x0 :: x1 :: x2 :: x3 :: x4 :: R =>
          refine ⟨x0, x1, x2, x3, x4, R, rfl, ?_⟩
          rw [show 5 * (j + 1) = 5 * j + 5 by omega, ← List.drop_drop, h]
          rfl
        | [] => rw [h] at hl; simp at hl; omega
        | [_] => rw [h] at hl; simp at hl; omega
        | [_, _] => rw [h] at hl; simp at hl; omega
        | [_, _, _] => rw [h] at hl; simp at hl; omega
        | [_, _, _, _] => rw [h] at hl; simp at hl; omega
      rw [hR] at hr
      have hml : (marksV (5 * j)).length = j * 5 := by rw [marksV_len]; omega
      have cell : ∀ i v, i < 5 → (x0 :: x1 :: x2 :: x3 :: x4 :: R)[i]? = some v → wr.cell? ⟨g, j * 5 + i, none⟩ = some v := fun i v hi hv => by
        rw [hr.cellAt (j * 5 + i) (by omega), List.getElem?_append_right (by omega), hml, show j * 5 + i - j * 5 = i by omega, hv]
      have y0 : wr.cell? ⟨g, j * 5, none⟩ = some x0 := cell 0 _ (by decide) rfl
      have y1 : wr.cell? ⟨g, j * 5 + 1, none⟩ = some x1 := cell 1 _ (by decide) rfl
      have y2 : wr.cell? ⟨g, j * 5 + 2, none⟩ = some x2 := cell 2 _ (by decide) rfl
      have y3 : wr.cell? ⟨g, j * 5 + 3, none⟩ = some x3 := cell 3 _ (by decide) rfl
      have y4 : wr.cell? ⟨g, j * 5 + 4, none⟩ = some x4 := cell 4 _ (by decide) rfl
      have f0 := hr.frozenAt (j * 5)
      have f1 := hr.frozenAt (j * 5 + 1)
      have f2 := hr.frozenAt (j * 5 + 2)
      have f3 := hr.frozenAt (j * 5 + 3)
      have f4 := hr.frozenAt (j * 5 + 4)
      have H5 := Lib.hid (marksV_five j)
      have HD := Lib.hid hd
      clear hR hd cell
      go_wp2_with fail
      have S0 := hr.stored (j * 5) (.int .i64 (1 + 5 * (j : Int)))
      have S1 := S0.1.stored (j * 5 + 1) (.int .i64 (1 + 5 * (j : Int) + 1))
      have S2 := S1.1.stored (j * 5 + 2) (.int .i64 (1 + 5 * (j : Int) + 1 + 1))
      have S3 := S2.1.stored (j * 5 + 3) (.int .i64 (1 + 5 * (j : Int) + 1 + 1 + 1))
      have S4 := S3.1.stored (j * 5 + 4) (.int .i64 (1 + 5 * (j : Int) + 1 + 1 + 1 + 1))
      have HG := ((((hgr.trans S0.2).trans S1.2).trans S2.2).trans S3.2).trans S4.2
      have R5 := S4.1
      rw [set_five _ R (j * 5) hml] at R5
      go_roundw
      case rel => exact ⟨j + 1, by omega, by go_num, by go_num, by rw [H5.out, ← HD.out, List.append_assoc]; exact R5, HG⟩
      case measure => simp [intOf]; omega
    · obtain rfl : j = n := by omega
      rw [List.drop_of_length_le (by omega), List.append_nil] at hr
      go_wp2
      go_ret
      exact ⟨rfl, hr, hgr⟩

set_option maxRecDepth 100000 in
set_option maxHeartbeats 4000000 in
theorem held_ptrs (t : TypeId) (base g c n : Nat) (w : World) (hn : n ≤ 1048576) (ho : w.ownsRow base t 5 (.slice (some ⟨g, 0, none⟩) n c) n (marksV (5 * n))) :
    Calls Tryd.prog 39 #[.slice (some ⟨g, 0, none⟩) n c, .int .i64 1] w fun e w' => e = .returned (.int .i64 (1 + 5 * (n : Int))) ∧ w = w' := by
  go_enter Tryd.func39, Tryd.ntmps39
  go_wp2
  go_loopw [1, 5] (fun kv i wr => ∃ j : Nat, j ≤ n ∧ i = .int .i64 j ∧ kv = .int .i64 (1 + 5 * (j : Int)) ∧ w = wr) (fun _ i _ => n - (intOf i).toNat)
  case atStart => exact ⟨0, Nat.zero_le _, rfl, rfl, rfl⟩
  case round =>
    obtain ⟨j, hj, rfl, rfl, rfl⟩ := hrel
    by_cases hlt : j < n
    · have hlt' : (j : Int) < (n : Int) := by omega
      have cell : ∀ k, k < 5 → w.cell? ⟨g, j * 5 + k, none⟩ = some (.int .i64 (1 + 5 * (j : Int) + k)) := fun k hk => by
        rw [ho.cellAt (j * 5 + k) (by omega), marksV_at n j k hlt hk]
      have y0 : w.cell? ⟨g, j * 5, none⟩ = some (.int .i64 (1 + 5 * (j : Int))) := by have h := cell 0 (by decide); rw [Nat.add_zero] at h; rw [h]; exact congrArg (fun x => some (Value.int .i64 x)) (by omega)
      have y1 : w.cell? ⟨g, j * 5 + 1, none⟩ = some (.int .i64 (1 + 5 * (j : Int) + 1)) := cell 1 (by decide)
      have y2 : w.cell? ⟨g, j * 5 + 2, none⟩ = some (.int .i64 (1 + 5 * (j : Int) + 1 + 1)) := by rw [cell 2 (by decide)]; exact congrArg (fun x => some (Value.int .i64 x)) (by omega)
      have y3 : w.cell? ⟨g, j * 5 + 3, none⟩ = some (.int .i64 (1 + 5 * (j : Int) + 1 + 1 + 1)) := by rw [cell 3 (by decide)]; exact congrArg (fun x => some (Value.int .i64 x)) (by omega)
      have y4 : w.cell? ⟨g, j * 5 + 4, none⟩ = some (.int .i64 (1 + 5 * (j : Int) + 1 + 1 + 1 + 1)) := by rw [cell 4 (by decide)]; exact congrArg (fun x => some (Value.int .i64 x)) (by omega)
      clear cell
      go_wp2_with fail
      go_roundw
      case rel => exact ⟨j + 1, by omega, by go_num, by go_num, by first | rfl | trivial⟩
      case measure => simp [intOf]; omega
    · obtain rfl : j = n := by omega
      go_wp2
      go_ret
      exact ⟨rfl, rfl⟩

theorem mark_zero (A : Option Addr) (c : Nat) (w : World) : Calls Tryd.prog 38 #[.slice A 0 c, .int .i64 1] w fun e w' => e = .returned (.int .i64 1) ∧ w = w' := by
  go_enter Tryd.func38, Tryd.ntmps38
  go_wp2
  refine wp_loop_rounds 1 ?_
  rw [rounds_succ]
  go_wp2
  go_ret
  exact ⟨rfl, rfl⟩
theorem held_zero (A : Option Addr) (c : Nat) (w : World) : Calls Tryd.prog 39 #[.slice A 0 c, .int .i64 1] w fun e w' => e = .returned (.int .i64 1) ∧ w = w' := by
  go_enter Tryd.func39, Tryd.ntmps39
  go_wp2
  refine wp_loop_rounds 1 ?_
  rw [rounds_succ]
  go_wp2
  go_ret
  exact ⟨rfl, rfl⟩
theorem eq_zero (A B : Option Addr) (c d : Nat) (w : World) : Calls Tryd.prog 37 #[.slice A 0 c, .slice B 0 d] w fun e w' => e = .returned (.bool true) ∧ w = w' := by
  go_enter Tryd.func37, Tryd.ntmps37
  go_wp2
  refine wp_loop_rounds 1 ?_
  rw [rounds_succ]
  go_wp2
  go_ret
  exact ⟨rfl, rfl⟩

def YesF (ps : List P5) (t : TypeId) (w : World) (e : Ending) (w' : World) : Prop :=
  ∃ g c : Nat, e = .returned (.tuple #[.slice (some ⟨g, 0, none⟩) ps.length c, .bool true]) ∧ w'.ownsRow w.heap.size t 5 (.slice (some ⟨g, 0, none⟩) ps.length c) ps.length (flat ps) ∧ Below w.heap.size w w'
def NoF (w : World) (e : Ending) (w' : World) : Prop :=
  ∃ (A : Option Addr) (c : Nat), e = .returned (.tuple #[.slice A 0 c, .bool false]) ∧ Below w.heap.size w w'
theorem FanPost.yes {ps : List P5} {t : TypeId} {w w' : World} {e : Ending} (h : FanPost (ps, true) t w e w') : YesF ps t w e w' := by
  obtain ⟨hb, ⟨_, g, c, he, ho⟩ | ⟨h, _⟩⟩ := h
  · exact ⟨g, c, he, ho, hb⟩
  · exact absurd (show true = false from h) (by decide)
theorem FanPost.no {ps : List P5} {t : TypeId} {w w' : World} {e : Ending} (h : FanPost (ps, false) t w e w') : NoF w e w' := by
  obtain ⟨hb, ⟨h, _⟩ | ⟨_, A, c, he⟩⟩ := h
  · exact absurd (show false = true from h) (by decide)
  · exact ⟨A, c, he, hb⟩
theorem PtrsAt.of_ownt {W : World} {t : TypeId} {base g cap : Nat} {ps : List P5} (h : W.ownsRow base t 5 (.slice (some ⟨g, 0, none⟩) ps.length cap) ps.length (flat ps)) : PtrsAt W g ps := by
  refine ⟨(h.lt g rfl).2, fun j v hv => ?_⟩
  have hj : j < (flat ps).length := (List.getElem?_eq_some_iff.1 hv).1
  rw [flat_len] at hj
  rw [Nat.zero_add, h.cellAt j (by omega), hv]
theorem PtrsAt.grown {W W' : World} {b g : Nat} {ps : List P5} (h : PtrsAt W b ps) (hg : W.grownBy W' (some g)) (hne : b ≠ g) : PtrsAt W' b ps :=
  ⟨Nat.lt_of_lt_of_le h.1 hg.size, fun j v hv => (World.cell?_of_block (hg.block b h.1 (fun e => hne (by cases e; rfl)))).trans (h.2 j v hv)⟩

set_option maxRecDepth 100000 in
set_option maxHeartbeats 4000000 in
theorem walk_efget (s : ByteArray) (w : World) (hE : Env w) :
    Calls Tryd.prog 13 #[.string s] w fun e w' => e = .returned (.bool true) ∧ Below w.heap.size w w' := by
  by_cases hbig : (1048576 : Int) < (s.size : Int)
  · go_enter Tryd.func13, Tryd.ntmps13
    go_wp2
    go_ret
    exact ⟨rfl, Below.refl _ _⟩
  · have hI0 := fun (W : World) (hb : Below w.heap.size w W) => impl_fanget s W (by omega) (hE.at hb)
    have hS0 := spec_fanget s w (by omega)
    have hfew : (fanR s).1.length ≤ 4 := by
      unfold fanR
      split
      · rename_i h
        show ((cutsB 44 s).map rdP).length ≤ 4
        rw [List.length_map, h.1]
        exact Nat.le_refl _
      · simp
    obtain ⟨⟨ps, o⟩, hq⟩ : ∃ q, q = fanR s := ⟨_, rfl⟩
    rw [← hq] at hI0 hS0 hfew
    have h60 : ps.length ≤ 4 := hfew
    cases o with
    | true =>
      have hI := fun (W : World) (hb : Below w.heap.size w W) => (hI0 W hb).mono fun e w' h => h.yes
      have hS := hS0.mono fun e w' h => h.yes
      clear hI0 hS0 hE hq hfew
      go_enter Tryd.func13, Tryd.ntmps13
      go_wp2_with (go_at_call 32; refine hS.mono ?_; rintro e w1 ⟨g1, c1, rfl, o1, b1⟩; refine Hid.out ?_)
      refine Lib.hid ?_
      have l1 := (o1.lt g1 rfl).2
      have p1 := PtrsAt.of_ownt o1
      have hI1 := hI w1 b1
      clear hS o1
      go_wp2_with (go_at_call 29; refine hI1.mono ?_; rintro e w2 ⟨g2, c2, rfl, o2, b2⟩; refine Hid.out ?_)
      refine Lib.hid ?_
      have l2 := (o2.lt g2 rfl).1
      have hne : g1 ≠ g2 := by omega
      have p1b := p1.below b2
      have B2 := bel_then b1 b2
      have hQ := eq_ptrs g2 g1 c2 c1 ps w2 (by omega) (PtrsAt.of_ownt o2) p1b
      clear p1 hI1
      go_wp2_with (go_at_call 37; refine hQ.mono ?_; rintro e w3 ⟨rfl, b3⟩; refine Hid.out ?_)
      refine Lib.hid ?_
      have o2c := own_below5 o2 b3
      have p1c := p1b.below b3
      have B3 := bel_then B2 b3
      have hK := mark_ptrs 67 w1.heap.size g2 c2 ps.length (flat ps) w3 (by omega) o2c
      have s1 := b1.size
      clear hQ o2 p1b b3 b2
      go_wp2_with (go_at_call 38; refine hK.mono ?_; rintro e w4 ⟨rfl, o2d, G4⟩; refine Hid.out ?_)
      refine Lib.hid ?_
      have p1d := p1c.grown G4 hne
      have B4 : Below w.heap.size w w4 := B3.grown G4 B3.size (fun k e => by cases e; omega)
      have hH := held_ptrs 67 w1.heap.size g2 c2 ps.length w4 (by omega) o2d
      clear hK o2c p1c G4
      have hm2 : ¬ (1 + 5 * (ps.length : Int)) < 0 := by omega
      go_wp2_with (go_at_call 39; refine hH.mono ?_; rintro e w5 ⟨rfl, rfl⟩; refine Hid.out ?_)
      refine Lib.hid ?_
      have hI5 := hI w4 B4
      have hm1 : ((1 + 5 * (ps.length : Int)) != (1 + 5 * (ps.length : Int))) = false := by simp
      clear hH hI
      go_wp2_with (go_at_call 29; refine hI5.mono ?_; rintro e w6 ⟨g3, c3, rfl, o3, b6⟩; refine Hid.out ?_)
      refine Lib.hid ?_
      have o2f := own_below5 o2d b6
      have p1f := p1d.below b6
      have B6 := bel_then B4 b6
      have hQ := eq_ptrs g3 g1 c3 c1 ps w6 (by omega) (PtrsAt.of_ownt o3) p1f
      clear hI5 o2d p1d b6
      go_wp2_with (go_at_call 37; refine hQ.mono ?_; rintro e w7 ⟨rfl, b7⟩; refine Hid.out ?_)
      refine Lib.hid ?_
      have o2g := own_below5 o2f b7
      have B7 := bel_then B6 b7
      have hH := held_ptrs 67 w1.heap.size g2 c2 ps.length w7 (by omega) o2g
      clear hQ o2f p1f o3 b7
      go_wp2_with (go_at_call 39; refine hH.mono ?_; rintro e w8 ⟨rfl, rfl⟩)
      go_ret
      exact ⟨rfl, B7⟩
    | false =>
      have hI := fun (W : World) (hb : Below w.heap.size w W) => (hI0 W hb).mono fun e w' h => h.no
      have hS := hS0.mono fun e w' h => h.no
      clear hI0 hS0 hE hq hfew
      go_enter Tryd.func13, Tryd.ntmps13
      go_wp2_with (go_at_call 32; refine hS.mono ?_; rintro e w1 ⟨A1, c1, rfl, b1⟩; refine Hid.out ?_)
      refine Lib.hid ?_
      have hI1 := hI w1 b1
      go_wp2_with (go_at_call 29; refine hI1.mono ?_; rintro e w2 ⟨A2, c2, rfl, b2⟩; refine Hid.out ?_)
      refine Lib.hid ?_
      have B2 := bel_then b1 b2
      have hI2 := hI w2 B2
      clear hI1 hS
      go_wp2_with (first | (go_at_call 37; refine (eq_zero _ _ _ _ _).mono ?_; rintro e w' ⟨rfl, rfl⟩) | (go_at_call 38; refine (mark_zero _ _ _).mono ?_; rintro e w' ⟨rfl, rfl⟩) | (go_at_call 39; refine (held_zero _ _ _).mono ?_; rintro e w' ⟨rfl, rfl⟩) | (go_at_call 29; refine hI2.mono ?_; rintro e w4 ⟨A4, c4, rfl, b4⟩; refine Hid.out ?_))
      refine Lib.hid ?_
      have B4 := bel_then B2 b4
      go_wp2_with (first | (go_at_call 37; refine (eq_zero _ _ _ _ _).mono ?_; rintro e w' ⟨rfl, rfl⟩) | (go_at_call 39; refine (held_zero _ _ _).mono ?_; rintro e w' ⟨rfl, rfl⟩))
      go_ret
      exact ⟨rfl, B4⟩
end Go.Proofs.YtlfggmllpbghaaaDoor
