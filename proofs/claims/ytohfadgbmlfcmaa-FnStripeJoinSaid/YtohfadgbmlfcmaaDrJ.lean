/-
  The drawing of what StripeJoin is asked.
-/
import Derived.Test.YtohfadgbmlfcmaaDrW
import Derived.Deep.RegionLaw
namespace Go.Proofs.Ytohfadgbmlfcmaa
open Go.RowKit
set_option linter.unusedVariables false

/-- The reader, and three columns beside it, at a count of reads. -/
def RdC (w0 : World) (B : Nat) (A : Option Addr) (m cap base g c : Nat) (y0 y1 y2 : ByteArray) (n : Nat) (W : World) : Prop :=
  ∃ p, p ≤ n ∧ IsRd w0 W B A m cap p ∧ W.ownsRow base 9 1 (.slice (some ⟨g, 0, none⟩) 3 c) 3 (strCells [y0, y1, y2]) ∧ g ≠ B
theorem RdC.alloc {w0 W : World} {B : Nat} {A : Option Addr} {m cap base g c n : Nat} {y0 y1 y2 : ByteArray} (h : RdC w0 B A m cap base g c y0 y1 y2 n W) (o : Obj) : RdC w0 B A m cap base g c y0 y1 y2 n (W.alloc o) := by
  obtain ⟨p, hp, h, o2, hne⟩ := h
  exact ⟨p, hp, h.alloc o, o2.alloc o, hne⟩
theorem RdC.drew {w0 W : World} {B : Nat} {A : Option Addr} {m cap base g c n : Nat} {y0 y1 y2 : ByteArray} (h : RdC w0 B A m cap base g c y0 y1 y2 n W) : RdC w0 B A m cap base g c y0 y1 y2 n W.drew := by
  obtain ⟨p, hp, h, o2, hne⟩ := h
  exact ⟨p, hp, h.drewN 1, o2.drew, hne⟩
theorem RdC.lt {w0 W : World} {B : Nat} {A : Option Addr} {m cap base g c n : Nat} {y0 y1 y2 : ByteArray} (h : RdC w0 B A m cap base g c y0 y1 y2 n W) : B < W.heap.size := by
  obtain ⟨p, hp, h, _⟩ := h
  exact h.lt
theorem RdC.pick {w0 W : World} {B : Nat} {A : Option Addr} {m cap base g c n : Nat} {y0 y1 y2 : ByteArray} (N : Int) (h : RdC w0 B A m cap base g c y0 y1 y2 n W) (hn : n ≤ 1000) (h1 : 1 ≤ N) (h2 : N ≤ 1000) :
    Calls Try.prog 37 #[.pointer (some ⟨B, 0, none⟩), .int .i64 N] W fun r W' => ∃ x : Int, 0 ≤ x ∧ x < N ∧ r = .returned (.int .i64 x) ∧ RdC w0 B A m cap base g c y0 y1 y2 (n + 1) W' ∧ W.grownBy W' (some B) := by
  obtain ⟨p, hp, h, o2, hne⟩ := h
  refine (pick_rd w0 W B A m cap p N h (by omega) (by omega) (by omega)).mono fun r W' ⟨x, x0, x1, hx, h', g'⟩ => ?_
  exact ⟨x, x0, x1, hx, ⟨p + 1, by omega, h', own_kept o2 g' hne, hne⟩, g'⟩

theorem own_cap {w : World} {base g c n : Nat} {xs : List Value} (h : w.ownsRow base 9 1 (.slice (some ⟨g, 0, none⟩) n c) n xs) : n ≤ c := by
  rcases h.2 with ⟨e, _⟩ | ⟨g', cap, cur, e, _, _, hnc, _⟩
  · cases e
  · cases e
    exact hnc
theorem RdC.cap {w0 W : World} {B : Nat} {A : Option Addr} {m cap base g c n : Nat} {y0 y1 y2 : ByteArray} (h : RdC w0 B A m cap base g c y0 y1 y2 n W) : 3 ≤ c := by
  obtain ⟨p, hp, h, o2, hne⟩ := h
  exact own_cap o2
def jv (j : Nat) : Int := ([0, 0, 0, 0, 1, -1, 130] : List Int).getD j 0
theorem jv_bd (j : Nat) : -1 ≤ jv j ∧ jv j ≤ 130 := by
  unfold jv
  match j with
  | 0 => decide
  | 1 => decide
  | 2 => decide
  | 3 => decide
  | 4 => decide
  | 5 => decide
  | 6 => decide
  | j + 7 => exact ⟨by simp [List.getD], by simp [List.getD]⟩
abbrev jlit : Array Value := #[.int .i64 0, .int .i64 0, .int .i64 0, .int .i64 0, .int .i64 1, .int .i64 (-1), .int .i64 130]
theorem jlit_at (j : Nat) (hj : j < 7) : (#[Value.int .i64 0, .int .i64 0, .int .i64 0, .int .i64 0, .int .i64 1, .int .i64 (-1), .int .i64 130])[j]? = some (.int .i64 (jv j)) := by
  match j, hj with
  | 0, _ => rfl
  | 1, _ => rfl
  | 2, _ => rfl
  | 3, _ => rfl
  | 4, _ => rfl
  | 5, _ => rfl
  | 6, _ => rfl
theorem jlit_at2 (j : Nat) (hj : j < 7) : ([Value.int .i64 0, .int .i64 0, .int .i64 0, .int .i64 0, .int .i64 1, .int .i64 (-1), .int .i64 130])[j]? = some (.int .i64 (jv j)) := by
  match j, hj with
  | 0, _ => rfl
  | 1, _ => rfl
  | 2, _ => rfl
  | 3, _ => rfl
  | 4, _ => rfl
  | 5, _ => rfl
  | 6, _ => rfl
theorem jlit_new (j : Nat) (hj : j < 7) (W : World) : (W.alloc (.cells #[.int .i64 0, .int .i64 0, .int .i64 0, .int .i64 0, .int .i64 1, .int .i64 (-1), .int .i64 130] 3)).cell? ⟨W.heap.size, j, none⟩ = some (.int .i64 (jv j)) := by
  rw [World.cell?_alloc_mark]
  exact jlit_at j hj
structure JLit (B g : Nat) (W : World) : Prop where
  cell : ∀ j, j < 7 → W.cell? ⟨g, j, none⟩ = some (.int .i64 (jv j))
  lt : g < W.heap.size
  ne : g ≠ B
theorem JLit.new {W W' : World} {B : Nat} {T : TypeId} (g : (W.alloc (.cells #[.int .i64 0, .int .i64 0, .int .i64 0, .int .i64 0, .int .i64 1, .int .i64 (-1), .int .i64 130] T)).grownBy W' (some B)) (hB : B < W.heap.size) : JLit B W.heap.size W' :=
  ⟨fun j hj => by
    rw [World.cell?_of_block (g.block W.heap.size (by simp) (by intro e; cases e; omega)), World.cell?_alloc_mark]
    exact jlit_at j hj, Nat.lt_of_lt_of_le (by simp) g.size, by omega⟩
theorem JLit.newD {W W' : World} {B : Nat} {T : TypeId} (g : (W.alloc (.cells #[.int .i64 0, .int .i64 0, .int .i64 0, .int .i64 0, .int .i64 1, .int .i64 (-1), .int .i64 130] T)).drew.grownBy W' (some B)) (hB : B < W.heap.size) : JLit B W.heap.size W' :=
  JLit.new (W := W) ⟨g.os, g.tape, g.output, g.size, g.block⟩ hB
theorem JLit.grown {W W' : World} {B k : Nat} (h : JLit B k W) (g : W.grownBy W' (some B)) : JLit B k W' :=
  ⟨fun j hj => by rw [World.cell?_of_block (g.block k h.lt (by intro e; cases e; exact h.ne rfl))]; exact h.cell j hj, Nat.lt_of_lt_of_le h.lt g.size, h.ne⟩

/-- Columns and two numbers are drawn. -/
def DrawnJ (w : World) (r : Ending) (w' : World) : Prop :=
  ∃ (A : Option Addr) (c : Nat) (ss : List ByteArray) (size lost : Int), r = .returned (.tuple #[.slice A ss.length c, .int .i64 size, .int .i64 lost]) ∧ Lies w' A (strCells ss) ∧ ss.length ≤ maxLen ∧ (∀ s ∈ ss, s.size ≤ maxLen) ∧ Below w.heap.size w w'

theorem DrawnJ.of {w0 W : World} {B : Nat} {A : Option Addr} {m cap base g c n : Nat} {y0 y1 y2 : ByteArray} {v : Value} (size lost : Int) (h : RdC w0 B A m cap base g c y0 y1 y2 n W) (hs : y0.size ≤ 1000 ∧ y1.size ≤ 1000 ∧ y2.size ≤ 1000)
    (hv : v = .slice (some ⟨g, 0, none⟩) 3 c ∨ ∃ c', v = .slice (some ⟨g, 1, none⟩) 2 c') : DrawnJ w0 (.returned (.tuple #[v, .int .i64 size, .int .i64 lost])) W := by
  obtain ⟨p, hp, hr, ho, hne⟩ := h
  obtain ⟨h0, h1, h2⟩ := hs
  have hl : Lies W (some ⟨g, 0, none⟩) (strCells [y0, y1, y2]) := row_lies ho
  obtain ⟨b, off, e, hlt, k0, k1, k2⟩ := Three.of hl
  cases e
  rcases hv with rfl | ⟨c', rfl⟩
  · refine ⟨some ⟨g, 0, none⟩, c, [y0, y1, y2], size, lost, rfl, hl, by show 3 ≤ maxLen; unfold maxLen; omega, ?_, hr.bel⟩
    intro s h
    simp only [List.mem_cons, List.not_mem_nil, or_false] at h
    unfold maxLen
    rcases h with rfl | rfl | rfl <;> omega
  · refine ⟨some ⟨g, 1, none⟩, c', [y1, y2], size, lost, rfl, fun _ => ⟨g, 1, rfl, hlt, fun j v hj => ?_⟩, by show 2 ≤ maxLen; unfold maxLen; omega, ?_, hr.bel⟩
    · match j, hj with
      | 0, hj => cases hj; simpa using k1
      | 1, hj => cases hj; simpa using k2
      | j + 2, hj => simp [strCells] at hj
    · intro s h
      simp only [List.mem_cons, List.not_mem_nil, or_false] at h
      unfold maxLen
      rcases h with rfl | rfl <;> omega

set_option maxRecDepth 100000 in
set_option maxHeartbeats 8000000 in
theorem draw_sjoin (A : Option Addr) (n cap : Nat) (w : World) (hn : n ≤ cap) (hA : BytesAt w A n) : Calls Try.prog 22 #[.slice A n cap] w (DrawnJ w) := by
  have hO := open_rd A n cap w hn hA
  go_enter Try.func22, Try.ntmps22
  go_wp2_with (go_at_call 35; refine hO.mono ?_; rintro r w1 ⟨A1, m1, c1, B1, rfl, h1⟩; refine Hid.out ?_)
  refine Lib.hid ?_
  have hB := block_gr w w1 B1 A1 m1 c1 0 h1 (by omega)
  clear hO
  go_wp2_with (go_at_call 36; refine hB.mono ?_; rintro r w2 ⟨t, p', rfl, ht, h2, hp, g2⟩; refine Hid.out ?_)
  refine Lib.hid ?_
  have htm : t.size ≤ maxLen := by unfold maxLen; omega
  have hS := spec_cut t w2 htm
  have hB2 := h2.lt
  have hz2 := h2.bel.size
  clear hB g2 h1
  obtain ⟨b, hb⟩ : ∃ b, b = blockB t := ⟨_, rfl⟩
  obtain ⟨ss, hss⟩ : ∃ ss, ss = cutD t := ⟨_, rfl⟩
  rw [← hb, ← hss] at hS
  have hgood : b = true → ∃ x0 x1 x2 : ByteArray, ss = [x0, x1, x2] ∧ x0.size ≤ 300 ∧ x1.size ≤ 300 ∧ x2.size ≤ 300 := fun h => by
    have hs := (blockB_iff t).1 (by rw [← hb, h])
    refine ⟨strOf (colA t.data.toList), strOf (colB t.data.toList), strOf (colP t.data.toList), by rw [hss]; exact if_pos (by rw [← hb, h]), ?_, ?_, ?_⟩
    · rw [strOf_size, colA_len, toL_len]; unfold half; omega
    · rw [strOf_size, colB_len, toL_len]; omega
    · rw [strOf_size, colP_len, toL_len]; unfold half; omega
  have HG := Lib.hid hgood
  clear hgood hb hss htm
  go_wp2_with (go_at_call 9; refine hS.mono ?_; rintro r w3 ⟨A3, c3, rfl, o3, b3⟩; refine Hid.out ?_)
  refine Lib.hid ?_
  have h3 := h2.under b3
  have hz3 := b3.size
  clear hS b3 h2
  go_upto_if 20 with fail
  go_cut [7] (fun v wx => ∃ (base g c : Nat) (x0 x1 x2 : ByteArray), v = .slice (some ⟨g, 0, none⟩) 3 c ∧ Cols w wx B1 A1 m1 c1 p' base g c x0 x1 x2)
  case first =>
    cases b with
    | true =>
      obtain ⟨x0, x1, x2, rfl, z0, z1, z2⟩ := HG.out rfl
      obtain ⟨g, rfl⟩ := own_addr o3 (by show 0 < 3; omega)
      have hgl := (o3.lt g rfl).1
      go_wp2_with fail
      go_meet
      exact ⟨_, g, c3, x0, x1, x2, rfl, h3, o3, by omega, by omega, z0, z1, z2⟩
    | false =>
      go_wp2_with fail
      go_meet
      exact ⟨w3.heap.size, w3.heap.size, 3, ⟨#[97]⟩, ⟨#[98]⟩, ⟨#[99]⟩, rfl, h3.under (bel_new (Below.refl _ _) _), own_new (w := w3) (t := 9) [⟨#[97]⟩, ⟨#[98]⟩, ⟨#[99]⟩] (by show 3 ≤ 1000; omega), by omega, by omega, by decide, by decide, by decide⟩
  case rest =>
    obtain ⟨base, g, c, x0, x1, x2, rfl, hC⟩ := hcut
    clear HG o3 h3
    have hK := pick_rd w _ B1 A1 m1 c1 p' 3 hC.rd (by omega) (by omega) (by omega)
    go_wp2_with (go_at_call 37; refine hK.mono ?_; rintro r w5 ⟨y, y0, y1, rfl, r5, g5⟩; refine Hid.out ?_)
    refine Lib.hid ?_
    have hC := hC.grown g5 r5
    clear hK g5 r5
    go_upto_if 24 with fail
    go_cut [9] (fun _ wx => ∃ (z0 z1 z2 : ByteArray), RdC w B1 A1 m1 c1 base g c z0 z1 z2 200 wx ∧ z0.size ≤ 1000 ∧ z1.size ≤ 1000 ∧ z2.size ≤ 1000)
    case first =>
      by_cases hy : y = 0
      · subst hy
        have hK := pick_rd w w5 B1 A1 m1 c1 _ 3 hC.rd (by omega) (by omega) (by omega)
        go_wp2_with (go_at_call 37; refine hK.mono ?_; rintro r w6 ⟨k, k0, k1, rfl, r6, g6⟩; refine Hid.out ?_)
        refine Lib.hid ?_
        have hC := hC.grown g6 r6
        clear hK g6 r6
        obtain ⟨_, m0, m1', m2⟩ := hC.three
        have sz := hC.sz
        have hsp := fun s hs => spoil_gr w w6 B1 A1 m1 c1 _ s hC.rd (by omega) hs
        rcases (show k = 0 ∨ k = 1 ∨ k = 2 by omega) with rfl | rfl | rfl
        · go_wp2_with (go_at_call 38; refine (hsp x0 (by omega)).mono ?_; rintro r w7 ⟨t7, p7, rfl, ht7, r7, hp7, g7⟩; refine Hid.out ?_)
          refine Lib.hid ?_
          have hC := hC.grown g7 r7
          obtain ⟨_, q0, q1, q2⟩ := hC.three
          have hfz := hC.own.frozenAt 0
          obtain ⟨o8, r8⟩ := hC.set 0 t7 t7 x1 x2 rfl
          have hne := hC.ne
          clear hsp m0 m1' m2 g7 r7
          go_wp2_with fail
          go_meet
          exact ⟨t7, x1, x2, ⟨p7, by omega, r8, o8, hne⟩, by omega, by omega, by omega⟩
        · go_wp2_with (go_at_call 38; refine (hsp x1 (by omega)).mono ?_; rintro r w7 ⟨t7, p7, rfl, ht7, r7, hp7, g7⟩; refine Hid.out ?_)
          refine Lib.hid ?_
          have hC := hC.grown g7 r7
          obtain ⟨_, q0, q1, q2⟩ := hC.three
          have hfz := hC.own.frozenAt 1
          obtain ⟨o8, r8⟩ := hC.set 1 t7 x0 t7 x2 rfl
          have hne := hC.ne
          clear hsp m0 m1' m2 g7 r7
          go_wp2_with fail
          go_meet
          exact ⟨x0, t7, x2, ⟨p7, by omega, r8, o8, hne⟩, by omega, by omega, by omega⟩
        · go_wp2_with (go_at_call 38; refine (hsp x2 (by omega)).mono ?_; rintro r w7 ⟨t7, p7, rfl, ht7, r7, hp7, g7⟩; refine Hid.out ?_)
          refine Lib.hid ?_
          have hC := hC.grown g7 r7
          obtain ⟨_, q0, q1, q2⟩ := hC.three
          have hfz := hC.own.frozenAt 2
          obtain ⟨o8, r8⟩ := hC.set 2 t7 x0 x1 t7 rfl
          have hne := hC.ne
          clear hsp m0 m1' m2 g7 r7
          go_wp2_with fail
          go_meet
          exact ⟨x0, x1, t7, ⟨p7, by omega, r8, o8, hne⟩, by omega, by omega, by omega⟩
      · have hyb : (y == 0) = false := by simpa using hy
        have sz := hC.sz
        clear hy
        go_wp2_with fail
        go_meet
        exact ⟨x0, x1, x2, ⟨_, by omega, hC.rd, hC.own, hC.ne⟩, by omega, by omega, by omega⟩
    case rest =>
      obtain ⟨z0, z1, z2, hR, s0, s1, s2⟩ := hcut
      clear hC
      have hK := hR.pick 20 (by omega) (by omega) (by omega)
      go_wp2_with (go_at_call 37; refine hK.mono ?_; rintro r w9 ⟨y9, y90, y91, rfl, hR, g9⟩; refine Hid.out ?_)
      refine Lib.hid ?_
      clear hK g9
      go_upto_if 38 with fail
      go_cut [7] (fun v wx => (v = .slice (some ⟨g, 0, none⟩) 3 c ∨ ∃ c', v = .slice (some ⟨g, 1, none⟩) 2 c') ∧ RdC w B1 A1 m1 c1 base g c z0 z1 z2 201 wx)
      case first =>
        by_cases hy : y9 = 0
        · subst hy
          have hc3 := hR.cap
          have hc1 : ¬ c = 1 := by omega
          have hc2 : ¬ c - 1 = 0 := by omega
          have hc4 : 1 ≤ c := by omega
          go_wp2_with fail
          all_goals go_meet
          all_goals exact ⟨.inr ⟨_, rfl⟩, hR⟩
        · have hyb : (y9 == 0) = false := by simpa using hy
          clear hy
          go_wp2_with fail
          go_meet
          exact ⟨.inl rfl, hR⟩
      case rest =>
        obtain ⟨hv, hR⟩ := hcut
        have hsz : z0.size ≤ 1000 ∧ z1.size ≤ 1000 ∧ z2.size ≤ 1000 := ⟨s0, s1, s2⟩
        have HV := Lib.hid hv
        clear hv
        have h7 := fun W (h : RdC w B1 A1 m1 c1 base g c z0 z1 z2 201 W) => h.pick 7 (by omega) (by omega) (by omega)
        have h5 := fun W (h : RdC w B1 A1 m1 c1 base g c z0 z1 z2 202 W) => h.pick 5 (by omega) (by omega) (by omega)
        have h2 := fun W (h : RdC w B1 A1 m1 c1 base g c z0 z1 z2 203 W) => h.pick 2 (by omega) (by omega) (by omega)
        have hh := hR.drew
        clear hR
        go_wp2_with fail
        first
          | go_region_with (first
            | (go_at_call 37; (with_reducible refine (h7 _ ?_).mono ?_); (first | exact hh | exact hh.alloc _); rintro e w3 ⟨u, u0, u1, rfl, hh3, gg⟩; obtain ⟨j, rfl⟩ : ∃ j : Nat, u = (j : Int) := ⟨u.toNat, by omega⟩; have hj : j < 7 := (by omega); have ha1 := jlit_at j hj; have ha2 := jlit_at2 j hj; have ha3 := jlit_new j hj; have hjb := jv_bd j; have hjw := IntWalk.i64_in ((t.size : Int) + jv j) (by omega); (first | (have hz := JLit.newD gg hh.lt; have hc := hz.cell j hj) | skip); have hh := hh3)
            | (go_at_call 37; (with_reducible refine (h5 _ ?_).mono ?_); (first | exact hh | exact hh.alloc _); rintro e w4 ⟨v5, v50, v51, rfl, hh4, gg⟩; have hvw := IntWalk.i64_in (v5 - 1) (by omega); (first | (have hz := JLit.new gg hh.lt; have hc := hz.cell j hj) | (have hz := hz.grown gg; have hc := hz.cell j hj) | skip); have hh := hh4)
            | (go_at_call 37; (with_reducible refine (h2 _ ?_).mono ?_); (first | exact hh | exact hh.alloc _); rintro e w5 ⟨v2, v20, v21, rfl, hh5, gg⟩; have hvw2 := IntWalk.i64_in (v5 - 1 - v2) (by omega); (first | (have hz := JLit.new gg hh.lt; have hc := hz.cell j hj) | (have hz := hz.grown gg; have hc := hz.cell j hj) | skip); have hh := hh5))
          | fail "region"
        all_goals go_wp2_with fail
        all_goals refine bodyPost_ret (v := .tuple #[_, .int .i64 ((t.size : Int) + jv j), .int .i64 (v5 - 1 - v2)]) (by simp [results, Try.f22, go_sem]) rfl (DrawnJ.of _ _ (by first | exact hh | exact hh.alloc _) hsz HV.out)
end Go.Proofs.Ytohfadgbmlfcmaa
