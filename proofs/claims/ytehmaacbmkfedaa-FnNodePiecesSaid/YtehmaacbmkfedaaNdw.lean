/-
  DrawNodePieces draws two numbers.
-/
import Derived.Test.YtehmaacbmkfedaaNrd
import Derived.Test.YtehmaacbmkfedaaNpc
import Derived.Test.YtehmaacbmkfedaaReg
namespace Go.Proofs.Ytehmaacbmkfedaa
open Go.RowKit
set_option linter.unusedVariables false

def RdN (w0 : World) (B : Nat) (A : Option Addr) (m cap n : Nat) (W : World) : Prop := ∃ p, p ≤ n ∧ IsRd w0 W B A m cap p
theorem RdN.alloc {w0 W : World} {B : Nat} {A : Option Addr} {m cap n : Nat} (h : RdN w0 B A m cap n W) (o : Obj) : RdN w0 B A m cap n (W.alloc o) := by
  obtain ⟨p, hp, h⟩ := h
  exact ⟨p, hp, h.alloc o⟩
theorem RdN.drew {w0 W : World} {B : Nat} {A : Option Addr} {m cap n : Nat} (h : RdN w0 B A m cap n W) : RdN w0 B A m cap n W.drew := by
  obtain ⟨p, hp, h⟩ := h
  exact ⟨p, hp, h.blk, h.bts, h.old, h.bel.drew, h.few⟩
theorem RdN.lt {w0 W : World} {B : Nat} {A : Option Addr} {m cap n : Nat} (h : RdN w0 B A m cap n W) : B < W.heap.size := by
  obtain ⟨p, hp, h⟩ := h
  exact h.lt
theorem RdN.bel {w0 W : World} {B : Nat} {A : Option Addr} {m cap n : Nat} (h : RdN w0 B A m cap n W) : Below w0.heap.size w0 W := by
  obtain ⟨p, hp, h⟩ := h
  exact h.bel

def cv (j : Nat) : Int := ([0, 1, 12, 13, 128, 129, 192, 193, 2048, 2049, -1, 100] : List Int).getD j 0
theorem lit_at (j : Nat) (hj : j < 12) : (#[Value.int .i64 0, .int .i64 1, .int .i64 12, .int .i64 13, .int .i64 128, .int .i64 129, .int .i64 192, .int .i64 193, .int .i64 2048, .int .i64 2049, .int .i64 (-1), .int .i64 100])[j]? = some (.int .i64 (cv j)) := by
  match j, hj with
  | 0, _ => rfl
  | 1, _ => rfl
  | 2, _ => rfl
  | 3, _ => rfl
  | 4, _ => rfl
  | 5, _ => rfl
  | 6, _ => rfl
  | 7, _ => rfl
  | 8, _ => rfl
  | 9, _ => rfl
  | 10, _ => rfl
  | 11, _ => rfl
theorem lit_at2 (j : Nat) (hj : j < 12) : ([Value.int .i64 0, .int .i64 1, .int .i64 12, .int .i64 13, .int .i64 128, .int .i64 129, .int .i64 192, .int .i64 193, .int .i64 2048, .int .i64 2049, .int .i64 (-1), .int .i64 100])[j]? = some (.int .i64 (cv j)) := by
  match j, hj with
  | 0, _ => rfl
  | 1, _ => rfl
  | 2, _ => rfl
  | 3, _ => rfl
  | 4, _ => rfl
  | 5, _ => rfl
  | 6, _ => rfl
  | 7, _ => rfl
  | 8, _ => rfl
  | 9, _ => rfl
  | 10, _ => rfl
  | 11, _ => rfl
theorem lit_new (j : Nat) (hj : j < 12) (W : World) : (W.alloc (.cells #[.int .i64 0, .int .i64 1, .int .i64 12, .int .i64 13, .int .i64 128, .int .i64 129, .int .i64 192, .int .i64 193, .int .i64 2048, .int .i64 2049, .int .i64 (-1), .int .i64 100] 3)).cell? ⟨W.heap.size, j, none⟩ = some (.int .i64 (cv j)) := by
  rw [World.cell?_alloc_mark]
  exact lit_at j hj
structure Lit (B g : Nat) (W : World) : Prop where
  cell : ∀ j, j < 12 → W.cell? ⟨g, j, none⟩ = some (.int .i64 (cv j))
  lt : g < W.heap.size
  ne : g ≠ B
theorem Lit.new {W W' : World} {B : Nat} {T : TypeId} (g : (W.alloc (.cells #[.int .i64 0, .int .i64 1, .int .i64 12, .int .i64 13, .int .i64 128, .int .i64 129, .int .i64 192, .int .i64 193, .int .i64 2048, .int .i64 2049, .int .i64 (-1), .int .i64 100] T)).grownBy W' (some B)) (hB : B < W.heap.size) : Lit B W.heap.size W' :=
  ⟨fun j hj => by
    rw [World.cell?_of_block (g.block W.heap.size (by simp) (by intro e; cases e; omega)), World.cell?_alloc_mark]
    exact lit_at j hj, Nat.lt_of_lt_of_le (by simp) g.size, by omega⟩
theorem Lit.newD {W W' : World} {B : Nat} {T : TypeId} (g : (W.alloc (.cells #[.int .i64 0, .int .i64 1, .int .i64 12, .int .i64 13, .int .i64 128, .int .i64 129, .int .i64 192, .int .i64 193, .int .i64 2048, .int .i64 2049, .int .i64 (-1), .int .i64 100] T)).drew.grownBy W' (some B)) (hB : B < W.heap.size) : Lit B W.heap.size W' :=
  Lit.new (W := W) ⟨g.os, g.tape, g.output, g.size, g.block⟩ hB
theorem Lit.grown {W W' : World} {B k : Nat} (h : Lit B k W) (g : W.grownBy W' (some B)) : Lit B k W' :=
  ⟨fun j hj => by rw [World.cell?_of_block (g.block k h.lt (by intro e; cases e; exact h.ne rfl))]; exact h.cell j hj, Nat.lt_of_lt_of_le h.lt g.size, h.ne⟩

theorem bytes_at_below {w w' : World} {A : Option Addr} {n : Nat} (h : BytesAt w A n) (hb : Below w.heap.size w w') : BytesAt w' A n := by
  intro h0
  obtain ⟨b, off, rfl, hlt, hc⟩ := h h0
  refine ⟨b, off, rfl, Nat.lt_of_lt_of_le hlt hb.size, fun j hj => ?_⟩
  obtain ⟨z, z0, z1, hz⟩ := hc j hj
  exact ⟨z, z0, z1, (hb.cell (p := ⟨b, off + j, none⟩) hlt).trans hz⟩


def TwoInts (w : World) (r : Ending) (w' : World) : Prop := ∃ (a b : Int), r = .returned (.tuple #[.int .i64 a, .int .i64 b]) ∧ Below w.heap.size w w'

set_option maxRecDepth 100000 in
set_option maxHeartbeats 2000000 in
theorem draw_pieces (A : Option Addr) (n cap : Nat) (w : World) (hn : n ≤ cap) (hA : BytesAt w A n) :
    Calls Try.prog 14 #[.slice A n cap] w (TwoInts w) := by
  have hO := open_rd A n cap w hn hA
  go_enter Try.func14, Try.ntmps14
  go_wp2_with (go_at_call 27; refine hO.mono ?_; rintro e w1 ⟨A1, m, c1, B, rfl, hr⟩; refine Hid.out ?_)
  refine Lib.hid ?_
  have h5 : ∀ W, RdN w B A1 m c1 0 W → Calls Try.prog 28 #[.pointer (some ⟨B, 0, none⟩), .int .i64 5] W fun r W' => ∃ x : Int, 0 ≤ x ∧ x < 5 ∧ r = .returned (.int .i64 x) ∧ RdN w B A1 m c1 1 W' ∧ W.grownBy W' (some B) := fun W ⟨p, hp, h⟩ => (pick_rd w W B A1 m c1 p 5 h (by omega) (by omega) (by omega)).mono fun r W' ⟨x, x0, x1, hx, h', g⟩ => ⟨x, x0, x1, hx, ⟨p + 1, by omega, h'⟩, g⟩
  have h12 : ∀ W, RdN w B A1 m c1 1 W → Calls Try.prog 28 #[.pointer (some ⟨B, 0, none⟩), .int .i64 12] W fun r W' => ∃ x : Int, 0 ≤ x ∧ x < 12 ∧ r = .returned (.int .i64 x) ∧ RdN w B A1 m c1 2 W' ∧ W.grownBy W' (some B) := fun W ⟨p, hp, h⟩ => (pick_rd w W B A1 m c1 p 12 h (by omega) (by omega) (by omega)).mono fun r W' ⟨x, x0, x1, hx, h', g⟩ => ⟨x, x0, x1, hx, ⟨p + 1, by omega, h'⟩, g⟩
  have hh : RdN w B A1 m c1 0 w1.drew := RdN.drew ⟨0, Nat.le_refl _, hr⟩
  clear hO hr
  go_upto_region 2 with fail
  refine wp_region_held_drew (S := fun _ => True) (by kernel_rfl) trivial (fun hHeld => ?_)
  refine takeH (i := 0) (d := some 7) (v := ?v1) rfl rfl (by kernel_rfl) (by kernel_rfl) (by kernel_rfl) (fun _ _ _ h => h) (by rfl) ?hv1 trivial ?rv1
  case hv1 => (intro W hSw; go_simp <;> with_reducible rfl)
  try simp only [Act.put, List.setIfInBounds_toArray, List.set_cons_zero, List.set_cons_succ]
  refine takeH (i := 4) (d := some 11) (v := ?v2) rfl rfl (by kernel_rfl) (by kernel_rfl) (by kernel_rfl) (fun _ _ _ h => h) (by rfl) ?hv2 trivial ?rv2
  case hv2 => (intro W hSw; go_simp <;> with_reducible rfl)
  try simp only [Act.put, List.setIfInBounds_toArray, List.set_cons_zero, List.set_cons_succ]
  refine wpAnyH_ready (rs := [1, 3]) (by kernel_rfl) (by simp) ?_
  refine AllReadyH.cons rfl (fun K hK => ?_) (AllReadyH.cons rfl (fun K hK => ?_) AllReadyH.nil)
  · go_simp
    go_at_call 28
    refine (h5 _ hh).mono ?_
    rintro e w2 ⟨u, u0, u1, rfl, hh2, g2⟩
    have huw := IntWalk.i64_in (u - 1) (by omega)
    refine hK.out _ _ trivial (fun _ => ?_)
    clear hK K
    try simp only [Act.put, List.setIfInBounds_toArray, List.set_cons_zero, List.set_cons_succ]
    refine takeH (i := 2) (d := some 9) (v := ?v3) rfl rfl (by kernel_rfl) (by kernel_rfl) (by kernel_rfl) (fun _ _ _ h => h) (by rfl) ?hv3 trivial ?rv3
    case hv3 => (intro W hSw; go_simp <;> with_reducible rfl)
    try simp only [Act.put, List.setIfInBounds_toArray, List.set_cons_zero, List.set_cons_succ]
    refine wpAnyH_ready (rs := [3, 5]) (by kernel_rfl) (by simp) ?_
    refine AllReadyH.cons rfl (fun K hK => ?_) (AllReadyH.cons rfl (fun K hK => ?_) AllReadyH.nil)
    · go_simp
      refine hK.out _ _ trivial (fun _ => ?_)
      clear hK K
      try simp only [Act.put, List.setIfInBounds_toArray, List.set_cons_zero, List.set_cons_succ]
      refine wpAnyH_ready (rs := [5]) (by kernel_rfl) (by simp) ?_
      refine AllReadyH.cons rfl (fun K hK => ?_) AllReadyH.nil
      go_simp
      go_at_call 28
      refine (h12 _ (hh2.alloc _)).mono ?_
      rintro e w3 ⟨v, v0, v1, rfl, hh3, g3⟩
      obtain ⟨j, rfl⟩ : ∃ j : Nat, v = (j : Int) := ⟨v.toNat, by omega⟩
      have hj : j < 12 := by omega
      refine hK.out _ _ trivial (fun _ => ?_)
      clear hK K
      try simp only [Act.put, List.setIfInBounds_toArray, List.set_cons_zero, List.set_cons_succ]
      refine takeH (i := 8) (d := some 2) (v := ?v4) rfl rfl (by kernel_rfl) (by kernel_rfl) (by kernel_rfl) (fun _ _ _ h => h) (by rfl) ?hv4 trivial ?rv4
      case hv4 => (intro W hSw; go_simp <;> with_reducible rfl)
      try simp only [Act.put, List.setIfInBounds_toArray, List.set_cons_zero, List.set_cons_succ]
      have hc : w3.cell? ⟨w2.heap.size, j, none⟩ = some (.int .i64 (cv j)) := (Lit.new g3 hh2.lt).cell j hj
      refine wpAnyH_ready (rs := [6]) (by kernel_rfl) (by simp) ?_
      refine AllReadyH.cons rfl (fun K hK => ?_) AllReadyH.nil
      go_simp
      refine hK.out _ _ trivial (fun _ => ?_)
      clear hK K
      try simp only [Act.put, List.setIfInBounds_toArray, List.set_cons_zero, List.set_cons_succ]
      refine wpAnyH_ready (rs := [7]) (by kernel_rfl) (by simp) ?_
      refine AllReadyH.cons rfl (fun K hK => ?_) AllReadyH.nil
      go_simp
      refine hK.out _ _ trivial (fun _ => ?_)
      clear hK K
      try simp only [Act.put, List.setIfInBounds_toArray, List.set_cons_zero, List.set_cons_succ]
      refine takeH (i := 9) (d := some 3) (v := ?v5) rfl rfl (by kernel_rfl) (by kernel_rfl) (by kernel_rfl) (fun _ _ _ h => h) (by rfl) ?hv5 trivial ?rv5
      case hv5 => (intro W hSw; go_simp <;> with_reducible rfl)
      try simp only [Act.put, List.setIfInBounds_toArray, List.set_cons_zero, List.set_cons_succ]
      refine wpAnyH_done (by kernel_rfl) ?_ _
      go_wp2_with fail
      exact bodyPost_ret (v := .tuple #[.int .i64 (u - 1), .int .i64 (cv j)]) (by simp [results, Try.f14, go_sem]) rfl ⟨u - 1, cv j, rfl, hh3.bel⟩
    · skip
      go_simp
      go_at_call 28
      refine (h12 _ hh2).mono ?_
      rintro e w3 ⟨v, v0, v1, rfl, hh3, g3⟩
      obtain ⟨j, rfl⟩ : ∃ j : Nat, v = (j : Int) := ⟨v.toNat, by omega⟩
      have hj : j < 12 := by omega
      refine hK.out _ _ trivial (fun _ => ?_)
      clear hK K
      try simp only [Act.put, List.setIfInBounds_toArray, List.set_cons_zero, List.set_cons_succ]
      refine takeH (i := 8) (d := some 2) (v := ?v6) rfl rfl (by kernel_rfl) (by kernel_rfl) (by kernel_rfl) (fun _ _ _ h => h) (by rfl) ?hv6 trivial ?rv6
      case hv6 => (intro W hSw; go_simp <;> with_reducible rfl)
      try simp only [Act.put, List.setIfInBounds_toArray, List.set_cons_zero, List.set_cons_succ]
      refine wpAnyH_ready (rs := [3]) (by kernel_rfl) (by simp) ?_
      refine AllReadyH.cons rfl (fun K hK => ?_) AllReadyH.nil
      go_simp
      refine hK.out _ _ trivial (fun _ => ?_)
      clear hK K
      try simp only [Act.put, List.setIfInBounds_toArray, List.set_cons_zero, List.set_cons_succ]
      have hc := lit_new j hj w3
      refine wpAnyH_ready (rs := [6]) (by kernel_rfl) (by simp) ?_
      refine AllReadyH.cons rfl (fun K hK => ?_) AllReadyH.nil
      go_simp
      refine hK.out _ _ trivial (fun _ => ?_)
      clear hK K
      try simp only [Act.put, List.setIfInBounds_toArray, List.set_cons_zero, List.set_cons_succ]
      refine wpAnyH_ready (rs := [7]) (by kernel_rfl) (by simp) ?_
      refine AllReadyH.cons rfl (fun K hK => ?_) AllReadyH.nil
      go_simp
      refine hK.out _ _ trivial (fun _ => ?_)
      clear hK K
      try simp only [Act.put, List.setIfInBounds_toArray, List.set_cons_zero, List.set_cons_succ]
      refine takeH (i := 9) (d := some 3) (v := ?v7) rfl rfl (by kernel_rfl) (by kernel_rfl) (by kernel_rfl) (fun _ _ _ h => h) (by rfl) ?hv7 trivial ?rv7
      case hv7 => (intro W hSw; go_simp <;> with_reducible rfl)
      try simp only [Act.put, List.setIfInBounds_toArray, List.set_cons_zero, List.set_cons_succ]
      refine wpAnyH_done (by kernel_rfl) ?_ _
      go_wp2_with fail
      exact bodyPost_ret (v := .tuple #[.int .i64 (u - 1), .int .i64 (cv j)]) (by simp [results, Try.f14, go_sem]) rfl ⟨u - 1, cv j, rfl, (hh3.alloc _).bel⟩
  · go_simp
    refine hK.out _ _ trivial (fun _ => ?_)
    clear hK K
    try simp only [Act.put, List.setIfInBounds_toArray, List.set_cons_zero, List.set_cons_succ]
    refine wpAnyH_ready (rs := [1]) (by kernel_rfl) (by simp) ?_
    refine AllReadyH.cons rfl (fun K hK => ?_) AllReadyH.nil
    go_simp
    go_at_call 28
    refine (h5 _ (hh.alloc _)).mono ?_
    rintro e w2 ⟨u, u0, u1, rfl, hh2, g2⟩
    have huw := IntWalk.i64_in (u - 1) (by omega)
    refine hK.out _ _ trivial (fun _ => ?_)
    clear hK K
    try simp only [Act.put, List.setIfInBounds_toArray, List.set_cons_zero, List.set_cons_succ]
    refine takeH (i := 2) (d := some 9) (v := ?v8) rfl rfl (by kernel_rfl) (by kernel_rfl) (by kernel_rfl) (fun _ _ _ h => h) (by rfl) ?hv8 trivial ?rv8
    case hv8 => (intro W hSw; go_simp <;> with_reducible rfl)
    try simp only [Act.put, List.setIfInBounds_toArray, List.set_cons_zero, List.set_cons_succ]
    refine wpAnyH_ready (rs := [5]) (by kernel_rfl) (by simp) ?_
    refine AllReadyH.cons rfl (fun K hK => ?_) AllReadyH.nil
    go_simp
    go_at_call 28
    refine (h12 _ hh2).mono ?_
    rintro e w3 ⟨v, v0, v1, rfl, hh3, g3⟩
    obtain ⟨j, rfl⟩ : ∃ j : Nat, v = (j : Int) := ⟨v.toNat, by omega⟩
    have hj : j < 12 := by omega
    refine hK.out _ _ trivial (fun _ => ?_)
    clear hK K
    try simp only [Act.put, List.setIfInBounds_toArray, List.set_cons_zero, List.set_cons_succ]
    refine takeH (i := 8) (d := some 2) (v := ?v9) rfl rfl (by kernel_rfl) (by kernel_rfl) (by kernel_rfl) (fun _ _ _ h => h) (by rfl) ?hv9 trivial ?rv9
    case hv9 => (intro W hSw; go_simp <;> with_reducible rfl)
    try simp only [Act.put, List.setIfInBounds_toArray, List.set_cons_zero, List.set_cons_succ]
    have hc : w3.cell? ⟨w1.heap.size, j, none⟩ = some (.int .i64 (cv j)) := ((Lit.new g2 hh.lt).grown g3).cell j hj
    refine wpAnyH_ready (rs := [6]) (by kernel_rfl) (by simp) ?_
    refine AllReadyH.cons rfl (fun K hK => ?_) AllReadyH.nil
    go_simp
    refine hK.out _ _ trivial (fun _ => ?_)
    clear hK K
    try simp only [Act.put, List.setIfInBounds_toArray, List.set_cons_zero, List.set_cons_succ]
    refine wpAnyH_ready (rs := [7]) (by kernel_rfl) (by simp) ?_
    refine AllReadyH.cons rfl (fun K hK => ?_) AllReadyH.nil
    go_simp
    refine hK.out _ _ trivial (fun _ => ?_)
    clear hK K
    try simp only [Act.put, List.setIfInBounds_toArray, List.set_cons_zero, List.set_cons_succ]
    refine takeH (i := 9) (d := some 3) (v := ?v10) rfl rfl (by kernel_rfl) (by kernel_rfl) (by kernel_rfl) (fun _ _ _ h => h) (by rfl) ?hv10 trivial ?rv10
    case hv10 => (intro W hSw; go_simp <;> with_reducible rfl)
    try simp only [Act.put, List.setIfInBounds_toArray, List.set_cons_zero, List.set_cons_succ]
    refine wpAnyH_done (by kernel_rfl) ?_ _
    go_wp2_with fail
    exact bodyPost_ret (v := .tuple #[.int .i64 (u - 1), .int .i64 (cv j)]) (by simp [results, Try.f14, go_sem]) rfl ⟨u - 1, cv j, rfl, hh3.bel⟩

end Go.Proofs.Ytehmaacbmkfedaa
