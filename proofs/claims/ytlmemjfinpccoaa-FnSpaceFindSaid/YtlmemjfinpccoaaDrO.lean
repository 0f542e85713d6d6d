/-
  What the laws on space draw.
-/
import Derived.Test.YtlmemjfinpccoaaDrS
import Derived.Test.YtlmemjfinpccoaaDrL
namespace Go.Proofs.Ytlmemjfinpccoaa
open Go.RowKit

theorem lies_not_box {W : World} {A : Option Addr} {xs : List Int} {g n c m e : Nat} {T : TypeId} {A1 A2 : Option Addr} (h : Lies W A (intCells xs)) (h0 : 0 < xs.length) (hb : B2 W g T (.slice A1 n c) (.slice A2 m e)) : ∀ b o, A = some ⟨b, o, none⟩ → b ≠ g := by
  intro b o he e
  obtain ⟨b', off, e', _, hc⟩ := h.int 0 h0
  rw [he] at e'
  cases e'
  subst e
  unfold B2 at hb
  match o with
  | 0 => simp [World.cell?, hb] at hc
  | 1 => simp [World.cell?, hb] at hc
  | _ + 2 => simp [World.cell?, hb] at hc
theorem lies_not_rd {W w0 : World} {A D : Option Addr} {xs : List Int} {B m cap k : Nat} (h : Lies W A (intCells xs)) (h0 : 2 ≤ xs.length) (hb : IsRd w0 W B D m cap k) : ∀ b o, A = some ⟨b, o, none⟩ → b ≠ B := by
  intro b o he e
  obtain ⟨b', off, e', _, hc⟩ := h.int 0 (by omega)
  obtain ⟨b2, off2, e2, _, hc2⟩ := h.int 1 (by omega)
  rw [he] at e' e2
  cases e'
  cases e2
  subst e
  have := hb.blk
  simp only [World.cell?, this] at hc hc2
  rcases o with _ | _ | o
  · simp at hc
  · simp at hc2
  · simp at hc
theorem Lies.grownB {W W' : World} {A : Option Addr} {xs : List Value} {B : Nat} (h : Lies W A xs) (hne : ∀ b o, A = some ⟨b, o, none⟩ → b ≠ B) (hg : W.grownBy W' (some B)) : Lies W' A xs := fun h0 => by
  obtain ⟨b, off, e, hlt, hc⟩ := h h0
  exact ⟨b, off, e, Nat.lt_of_lt_of_le hlt hg.size, fun j v hj => (World.cell?_of_block (a := ⟨b, off + j, none⟩) (hg.block b hlt (by simp; exact hne b off e))).trans (hc j v hj)⟩
/-- The reader and the box of the result. -/
structure Rd2 (w0 w : World) (B : Nat) (A : Option Addr) (m cap lim : Nat) (W : World) : Prop where
  rd : ∃ k, k ≤ lim ∧ IsRd w0 W B A m cap k
  out : B2 W w.heap.size 24 (.slice none 0 0) (.slice none 0 0)
  bel : Below w.heap.size w W
  top : w.heap.size < B
/-- A space lies there that the reader does not touch. -/
structure SpD (B : Nat) (A1 A2 : Option Addr) (s : Sp) (W : World) : Prop where
  at_ : SpAt W A1 A2 s
  l1 : 2 ≤ s.refs.length ∧ s.refs.length ≤ 100
  l2 : 2 ≤ s.last.length ∧ s.last.length ≤ 100
  n1 : ∀ b o, A1 = some ⟨b, o, none⟩ → b ≠ B
  n2 : ∀ b o, A2 = some ⟨b, o, none⟩ → b ≠ B
section
variable {w0 w W W' : World} {B : Nat} {A A1 A2 : Option Addr} {m cap lim : Nat} {s : Sp}
theorem Rd2.lt (h : Rd2 w0 w B A m cap lim W) : B < W.heap.size := by
  obtain ⟨k, _, hr⟩ := h.rd
  exact hr.lt
theorem Rd2.alloc (h : Rd2 w0 w B A m cap lim W) (o : Obj) : Rd2 w0 w B A m cap lim (W.alloc o) := by
  obtain ⟨k, hk, hr⟩ := h.rd
  exact ⟨⟨k, hk, hr.alloc o⟩, h.out.alloc o, bel_new h.bel o, h.top⟩
theorem Rd2.drew (h : Rd2 w0 w B A m cap lim W) : Rd2 w0 w B A m cap lim W.drew := by
  obtain ⟨k, hk, hr⟩ := h.rd
  exact ⟨⟨k, hk, hr.drew⟩, h.out, h.bel.drew, h.top⟩
theorem Rd2.step (h : Rd2 w0 w B A m cap lim W) {lim' : Nat} (hr : ∃ k, k ≤ lim' ∧ IsRd w0 W' B A m cap k) (hg : W.grownBy W' (some B)) : Rd2 w0 w B A m cap lim' W' :=
  ⟨hr, h.out.grown hg (by simp; have := h.top; omega), h.bel.grown hg h.bel.size (fun k e => by cases e; exact Nat.le_of_lt h.top), h.top⟩
theorem SpD.alloc (h : SpD B A1 A2 s W) (o : Obj) : SpD B A1 A2 s (W.alloc o) := ⟨⟨h.at_.1.alloc o, h.at_.2.alloc o⟩, h.l1, h.l2, h.n1, h.n2⟩
theorem SpD.drew (h : SpD B A1 A2 s W) : SpD B A1 A2 s W.drew := ⟨h.at_, h.l1, h.l2, h.n1, h.n2⟩
theorem SpD.grown (h : SpD B A1 A2 s W) (hg : W.grownBy W' (some B)) : SpD B A1 A2 s W' := ⟨⟨h.at_.1.grownB h.n1 hg, h.at_.2.grownB h.n2 hg⟩, h.l1, h.l2, h.n1, h.n2⟩
theorem Rd2.space (h : Rd2 w0 w B A m cap lim W) (hl : lim ≤ 1000) :
    Calls Try.prog 77 #[.pointer (some ⟨B, 0, none⟩)] W fun r W' => ∃ A1 c1 A2 c2 s, r = .returned (.agg #[.slice A1 s.refs.length c1, .slice A2 s.last.length c2]) ∧ Rd2 w0 w B A m cap (lim + 100) W' ∧ SpD B A1 A2 s W' ∧ W.grownBy W' (some B) := by
  obtain ⟨k, hk, hr⟩ := h.rd
  refine (draw_space w0 W B A m cap k hr (by omega)).mono fun r W' hd => ?_
  obtain ⟨A1, c1, A2, c2, s, e, hs, l1, l2, ⟨j, hj, hr'⟩, hg⟩ := hd
  exact ⟨A1, c1, A2, c2, s, e, h.step ⟨j, by omega, hr'⟩ hg, ⟨hs, l1, l2, lies_not_rd hs.1 l1.1 hr', lies_not_rd hs.2 l2.1 hr'⟩, hg⟩
theorem Rd2.row (h : Rd2 w0 w B A m cap lim W) (hl : lim ≤ 100000) :
    Calls Try.prog 79 #[.pointer (some ⟨B, 0, none⟩)] W fun r W' => ∃ x : Int, -1 ≤ x ∧ x ≤ 64 ∧ r = .returned (.int .i64 x) ∧ Rd2 w0 w B A m cap (lim + 2) W' ∧ W.grownBy W' (some B) := by
  obtain ⟨k, hk, hr⟩ := h.rd
  refine (draw_row w0 W B A m cap k hr (by omega)).mono fun r W' hd => ?_
  obtain ⟨x, x0, x1, e, ⟨j, hj, hr'⟩, hg⟩ := hd
  exact ⟨x, x0, x1, e, h.step ⟨j, by omega, hr'⟩ hg, hg⟩
theorem Rd2.pick (h : Rd2 w0 w B A m cap lim W) (hl : lim ≤ 100000) (n : Int) (h1 : 1 ≤ n) (h2 : n ≤ 1000) :
    Calls Try.prog 78 #[.pointer (some ⟨B, 0, none⟩), .int .i64 n] W fun r W' => ∃ x : Int, 0 ≤ x ∧ x < n ∧ r = .returned (.int .i64 x) ∧ Rd2 w0 w B A m cap (lim + 1) W' ∧ W.grownBy W' (some B) := by
  obtain ⟨k, hk, hr⟩ := h.rd
  refine (pick_rd w0 W B A m cap k n hr (by omega) h1 (by omega)).mono fun r W' ⟨x, x0, x1, he, hr', hg⟩ => ⟨x, x0, x1, he, h.step ⟨k + 1, by omega, hr'⟩ hg, hg⟩
/-- What lies there still lies there when the result is stored. -/
theorem SpD.put (h : SpD B A1 A2 s W) {g : Nat} {T : TypeId} (hb : B2 W g T (.slice none 0 0) (.slice none 0 0)) (a b : Value) : SpAt ((W.setCell ⟨g, 0, none⟩ a).setCell ⟨g, 1, none⟩ b) A1 A2 s := by
  have h1 := lies_not_box h.at_.1 (by have := h.l1; omega) hb
  have h2 := lies_not_box h.at_.2 (by have := h.l2; omega) hb
  exact ⟨(h.at_.1.set (a := ⟨g, 0, none⟩) h1 a).set (a := ⟨g, 1, none⟩) h1 b, (h.at_.2.set (a := ⟨g, 0, none⟩) h2 a).set (a := ⟨g, 1, none⟩) h2 b⟩
theorem Rd2.put (h : Rd2 w0 w B A m cap lim W) (a b : Value) : Below w.heap.size w ((W.setCell ⟨w.heap.size, 0, none⟩ a).setCell ⟨w.heap.size, 1, none⟩ b) :=
  (h.bel.setCell (p := ⟨w.heap.size, 0, none⟩) (Nat.le_refl _) a).setCell (p := ⟨w.heap.size, 1, none⟩) (Nat.le_refl _) b
end
/-- A space that is drawn by a law's own function. -/
def DrS0 (w : World) (r : Ending) (w' : World) : Prop :=
  ∃ A1 c1 A2 c2 s, r = .returned (.agg #[.slice A1 s.refs.length c1, .slice A2 s.last.length c2]) ∧ SpAt w' A1 A2 s ∧ s.refs.length ≤ 100 ∧ s.last.length ≤ 100 ∧ Below w.heap.size w w'
def DrS1 (w : World) (r : Ending) (w' : World) : Prop :=
  ∃ A1 c1 A2 c2 s, ∃ n : Int, -1 ≤ n ∧ n ≤ 64 ∧ r = .returned (.tuple #[.agg #[.slice A1 s.refs.length c1, .slice A2 s.last.length c2], .int .i64 n]) ∧ SpAt w' A1 A2 s ∧ s.refs.length ≤ 100 ∧ s.last.length ≤ 100 ∧ Below w.heap.size w w'
def DrS2 (w : World) (r : Ending) (w' : World) : Prop :=
  ∃ A1 c1 A2 c2 s, ∃ n t : Int, -1 ≤ n ∧ n ≤ 64 ∧ 0 ≤ t ∧ t ≤ 901 ∧ r = .returned (.tuple #[.agg #[.slice A1 s.refs.length c1, .slice A2 s.last.length c2], .int .i64 n, .int .i64 t]) ∧ SpAt w' A1 A2 s ∧ s.refs.length ≤ 100 ∧ s.last.length ≤ 100 ∧ Below w.heap.size w w'
theorem rd2_new {w W : World} {B n cap : Nat} {A : Option Addr} (hb : IsRd (w.alloc (.cells #[.slice none 0 0, .slice none 0 0] 24)) W B A n cap 0) : Rd2 (w.alloc (.cells #[.slice none 0 0, .slice none 0 0] 24)) w B A n cap 0 W := by
  have hb2 := hb.bel
  have ho := hb.old
  rw [World.size_alloc] at hb2 ho
  exact ⟨⟨0, Nat.le_refl _, hb⟩, (B2.new w 24 _ _).below (by rw [World.size_alloc]; exact hb2), bel_then (bel_new (Below.refl _ _) _) (by rw [World.size_alloc]; exact hb2), by omega⟩
theorem bytes_box {w : World} {A : Option Addr} {n : Nat} (hA : BytesAt w A n) (o : Obj) : BytesAt (w.alloc o) A n := fun h0 => by
  obtain ⟨b, off, e, hlt, hc⟩ := hA h0
  exact ⟨b, off, e, by rw [World.size_alloc]; omega, fun j hj => by obtain ⟨z, z0, z1, hz⟩ := hc j hj; exact ⟨z, z0, z1, (World.cell?_of_block (a := ⟨b, off + j, none⟩) (Below.heap_alloc w o b hlt)).trans hz⟩⟩
set_option maxHeartbeats 2000000 in
theorem draw_ok (A : Option Addr) (n cap : Nat) (w : World) (hn : n ≤ cap) (hA : BytesAt w A n) : Calls Try.prog 45 #[.slice A n cap] w (DrS0 w) := by
  have hO := open_rd A n cap (w.alloc (.cells #[.slice none 0 0, .slice none 0 0] 24)) hn (bytes_box hA _)
  go_enter Try.func45, Try.ntmps45
  go_wp2_with (first
    | (go_at_call 76; refine hO.mono ?_; rintro r w1 ⟨A', m', cap', B, rfl, hr⟩; have h1 := (rd2_new hr).space (by omega))
    | (go_at_call 77; refine h1.mono ?_; rintro r w2 ⟨A1, c1, A2, c2, s, rfl, h2, hs, g2⟩; obtain ⟨⟨o0, o1⟩, f0, f1⟩ := h2.out.cells))
  exact bodyPost_ret (v := .agg #[.slice A1 s.refs.length c1, .slice A2 s.last.length c2]) (by simp [results, Try.f45, go_sem, o0, o1]) rfl ⟨A1, c1, A2, c2, s, rfl, hs.put h2.out _ _, hs.l1.2, hs.l2.2, h2.put _ _⟩
set_option maxHeartbeats 2000000 in
theorem draw_room (A : Option Addr) (n cap : Nat) (w : World) (hn : n ≤ cap) (hA : BytesAt w A n) : Calls Try.prog 46 #[.slice A n cap] w (DrS0 w) := by
  have hO := open_rd A n cap (w.alloc (.cells #[.slice none 0 0, .slice none 0 0] 24)) hn (bytes_box hA _)
  go_enter Try.func46, Try.ntmps46
  go_wp2_with (first
    | (go_at_call 76; refine hO.mono ?_; rintro r w1 ⟨A', m', cap', B, rfl, hr⟩; have h1 := (rd2_new hr).space (by omega))
    | (go_at_call 77; refine h1.mono ?_; rintro r w2 ⟨A1, c1, A2, c2, s, rfl, h2, hs, g2⟩; obtain ⟨⟨o0, o1⟩, f0, f1⟩ := h2.out.cells))
  exact bodyPost_ret (v := .agg #[.slice A1 s.refs.length c1, .slice A2 s.last.length c2]) (by simp [results, Try.f46, go_sem, o0, o1]) rfl ⟨A1, c1, A2, c2, s, rfl, hs.put h2.out _ _, hs.l1.2, hs.l2.2, h2.put _ _⟩
set_option maxHeartbeats 2000000 in
theorem draw_give (A : Option Addr) (n cap : Nat) (w : World) (hn : n ≤ cap) (hA : BytesAt w A n) : Calls Try.prog 51 #[.slice A n cap] w (DrS1 w) := by
  have hO := open_rd A n cap (w.alloc (.cells #[.slice none 0 0, .slice none 0 0] 24)) hn (bytes_box hA _)
  go_enter Try.func51, Try.ntmps51
  go_wp2_with (first
    | (go_at_call 76; refine hO.mono ?_; rintro r w1 ⟨A', m', cap', B, rfl, hr⟩; have h1 := (rd2_new hr).space (by omega))
    | (go_at_call 77; refine h1.mono ?_; rintro r w2 ⟨A1, c1, A2, c2, s, rfl, h2, hs, g2⟩; have h3 := h2.row (by omega))
    | (go_at_call 79; refine h3.mono ?_; rintro r w3 ⟨x, x0, x1, rfl, h4, g3⟩; have hs := hs.grown g3; obtain ⟨⟨o0, o1⟩, f0, f1⟩ := h4.out.cells))
  exact bodyPost_ret (v := .tuple #[.agg #[.slice A1 s.refs.length c1, .slice A2 s.last.length c2], .int .i64 x]) (by simp [results, Try.f51, go_sem, o0, o1]) rfl ⟨A1, c1, A2, c2, s, x, x0, x1, rfl, hs.put h4.out _ _, hs.l1.2, hs.l2.2, h4.put _ _⟩
end Go.Proofs.Ytlmemjfinpccoaa
