/-
  A law's copy of a disk, and its weight.
-/
import Derived.Test.YtadgknkheachaaaCopy
namespace Go.Proofs.Ytadgknkheachaaa
open Go.RowKit

theorem bcell {W w1 : World} (hb : Below W.heap.size W w1) : (∀ b o, b < W.heap.size → w1.cell? ⟨b, o, none⟩ = W.cell? ⟨b, o, none⟩) ∧ (∀ b o, b < W.heap.size → w1.frozen? ⟨b, o, none⟩ = W.frozen? ⟨b, o, none⟩) :=
  ⟨fun b o h => hb.cell (p := ⟨b, o, none⟩) h, fun b o h => hb.frozen (p := ⟨b, o, none⟩) h⟩

set_option maxHeartbeats 1000000 in
theorem sz_disk (A B : Option Addr) (c e : Nat) (d : Dk) (L : Int) (w : World) (hL0 : 0 ≤ L) (hL : L ≤ 1048576) (hn : d.cells.length ≤ maxLen) (hs : ∀ s ∈ d.cells, s.size ≤ maxLen) (hm : d.waits.length ≤ maxLen) (ht : ∀ x ∈ d.waits, x.text.size ≤ maxLen) (hA : DkAt w A B d) :
    Calls Try.prog 27 #[.agg #[.slice A d.cells.length c, .slice B d.waits.length e, .bool d.gone], .int .i64 L] w (SzPost (d.cells.length + d.waits.length) L w) := by
  have hS := fun W hW => sz_strs A c d.cells L W hL0 hL hn hs (hA.1.below (w' := W) hW)
  have hT := fun L2 W h1 h2 hW => sz_waits B e d.waits L2 W h1 h2 hm ht (hA.2.below (w' := W) hW)
  obtain ⟨n, hn'⟩ : ∃ n, n = d.cells.length := ⟨_, rfl⟩
  obtain ⟨m, hm'⟩ : ∃ m, m = d.waits.length := ⟨_, rfl⟩
  rw [← hn'] at hS ⊢
  rw [← hm'] at hT ⊢
  clear hn hm hs ht hA hn' hm'
  go_enter Try.func27, Try.ntmps27
  go_wp2_with (first
    | (go_at_call 58; refine (hS _ (bel_new (Below.refl _ _) _)).mono ?_; rintro r w2 ⟨z, rfl, hb2, hz⟩; have B2 := bel_then (bel_new (Below.refl _ _) _) hb2; obtain ⟨hc, hf⟩ := bcell hb2; by_cases hzz : z < 0)
    | (go_at_call 59; refine (hT _ _ (by omega) (by have := hz (by omega); omega) B2).mono ?_; rintro r w3 ⟨y, rfl, hb3, hy⟩; have B3 := bel_then B2 hb3; by_cases hyy : y < 0))
  · go_ret
    exact ⟨_, rfl, B2, by intro h; omega⟩
  · go_ret
    exact ⟨_, rfl, B3, by intro h; omega⟩
  · go_ret
    exact ⟨_, rfl, B3, by intro h; have := hz (by omega); have := hy (by omega); omega⟩

theorem own_set {w : World} {base : Nat} {t : TypeId} {sz n : Nat} {v : Value} {xs : List Value} (h : w.ownsRow base t sz v n xs) {p : Addr} (hp : p.block < base) (u : Value) : (w.setCell p u).ownsRow base t sz v n xs :=
  h.kept (row := some p.block) ⟨rfl, rfl, rfl, by simp [World.setCell], fun k _ hk => Below.heap_setCell _ _ _ k (fun e => hk (by rw [e]))⟩ (.inr (fun e => by have := (h.lt _ e).1; omega))
theorem size_set (w : World) (p : Addr) (u : Value) : (w.setCell p u).heap.size = w.heap.size := by simp [World.setCell]

set_option maxHeartbeats 1000000 in
theorem to_disk (A B : Option Addr) (c e : Nat) (d : Dk) (w : World) (hn : d.cells.length ≤ 1048576) (hm : d.waits.length ≤ 1048576) (hA : DkAt w A B d) :
    Calls Try.prog 29 #[.agg #[.slice A d.cells.length c, .slice B d.waits.length e, .bool d.gone]] w (DkPost d w) := by
  have hS := fun W hW => to_strs A c d.cells W hn (hA.1.below (w' := W) hW)
  have hT := fun W hW => to_waits B e d.waits W hm (hA.2.below (w' := W) hW)
  go_enter Try.func29, Try.ntmps29
  go_wp2_with (first
    | (go_at_call 61; refine (hS _ (bel_new (bel_new (bel_new (Below.refl _ _) _) _) _)).mono ?_; rintro r w2 ⟨g, rfl, ho, hb2⟩; have B2 := bel_then (bel_new (bel_new (bel_new (Below.refl _ _) _) _) _) hb2; obtain ⟨hc, hf⟩ := bcell hb2; have s2 : w.heap.size + 1 + 1 + 1 ≤ w2.heap.size := (by have := hb2.size; simpa using this); have q0 : w.heap.size < w2.heap.size := (by omega); have q1 : w.heap.size + 1 < w2.heap.size := (by omega); have q2 : w.heap.size + 1 + 1 < w2.heap.size := (by omega))
    | (go_at_call 62; refine (hT _ (B2.setCell (p := ⟨w.heap.size + 1 + 1, 0, none⟩) (by show w.heap.size ≤ w.heap.size + 1 + 1; omega) _)).mono ?_; rintro r w3 ⟨g2, rfl, ho2, hb3⟩; have ho3 := own_base (base' := w.heap.size + 1 + 1 + 1) (own_bel (own_set (p := ⟨w.heap.size + 1 + 1, 0, none⟩) ho (by simp) _) hb3) (by simp); rw [size_set] at ho2; have ho4 := own_base (base' := w.heap.size + 1 + 1 + 1) ho2 s2; have B3 := bel_then (B2.setCell (p := ⟨w.heap.size + 1 + 1, 0, none⟩) (by show w.heap.size ≤ w.heap.size + 1 + 1; omega) _) hb3; obtain ⟨hc3, hf3⟩ := bcell hb3; rw [size_set] at hc3 hf3))
  have fin : ∀ {W : World} {tt : TypeId} {sz n : Nat} {v : Value} {xs : List Value}, W.ownsRow (w.heap.size + 1 + 1 + 1) tt sz v n xs → ∀ a b c d e : Value, (((((W.setCell ⟨w.heap.size + 1 + 1, 1, none⟩ a).setCell ⟨w.heap.size + 1 + 1, 2, none⟩ b).setCell ⟨w.heap.size + 1, 0, none⟩ c).setCell ⟨w.heap.size + 1, 1, none⟩ d).setCell ⟨w.heap.size + 1, 2, none⟩ e).ownsRow w.heap.size tt sz v n xs := fun h a b c d e =>
    own_base (own_set (own_set (own_set (own_set (own_set h (by show w.heap.size + 1 + 1 < _; omega) _) (by show w.heap.size + 1 + 1 < _; omega) _) (by show w.heap.size + 1 < _; omega) _) (by show w.heap.size + 1 < _; omega) _) (by show w.heap.size + 1 < _; omega) _) (by omega)
  refine bodyPost_ret (v := .agg #[.slice (some ⟨g, 0, none⟩) d.cells.length d.cells.length, .slice (some ⟨g2, 0, none⟩) d.waits.length d.waits.length, .bool d.gone]) (by simp [results, Try.f29, go_sem, *]) rfl ⟨_, rfl, ⟨9, _, _, rfl, .inl rfl, fin ho3 _ _ _ _ _, fin ho4 _ _ _ _ _⟩, ?_⟩
  exact ((((B3.setCell (by show w.heap.size ≤ w.heap.size + 1 + 1; omega) _).setCell (by show w.heap.size ≤ w.heap.size + 1 + 1; omega) _).setCell (by show w.heap.size ≤ w.heap.size + 1; omega) _).setCell (by show w.heap.size ≤ w.heap.size + 1; omega) _).setCell (by show w.heap.size ≤ w.heap.size + 1; omega) _

theorem DkOwn.set {W : World} {base : Nat} {v : Value} {d : Dk} (h : DkOwn W base v d) {p : Addr} (hp : p.block < base) (u : Value) : DkOwn (W.setCell p u) base v d := by
  obtain ⟨t, u1, u2, e, ht, h1, h2⟩ := h
  exact ⟨t, u1, u2, e, ht, own_set h1 hp u, own_set h2 hp u⟩
theorem DkOwn.box {W : World} {base R : Nat} {v : Value} {d : Dk} (h : DkOwn W base v d) (hR : R < base) (a b c : Value) : DkOwn (((W.setCell ⟨R, 0, none⟩ a).setCell ⟨R, 1, none⟩ b).setCell ⟨R, 2, none⟩ c) base v d :=
  ((h.set (p := ⟨R, 0, none⟩) hR a).set (p := ⟨R, 1, none⟩) hR b).set (p := ⟨R, 2, none⟩) hR c
theorem bel_box {w W : World} {R : Nat} (h : Below w.heap.size w W) (hR : w.heap.size ≤ R) (a b c : Value) : Below w.heap.size w (((W.setCell ⟨R, 0, none⟩ a).setCell ⟨R, 1, none⟩ b).setCell ⟨R, 2, none⟩ c) :=
  ((h.setCell (p := ⟨R, 0, none⟩) hR a).setCell (p := ⟨R, 1, none⟩) hR b).setCell (p := ⟨R, 2, none⟩) hR c
end Go.Proofs.Ytadgknkheachaaa
