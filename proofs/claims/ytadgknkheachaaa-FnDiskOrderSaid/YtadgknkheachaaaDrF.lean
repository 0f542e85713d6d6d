/-
  A drawn disk, where a literal lies behind it.
-/
import Derived.Test.YtadgknkheachaaaDrE
namespace Go.Proofs.Ytadgknkheachaaa
open Go.RowKit

theorem own_cap {w : World} {base g n c m : Nat} {t : TypeId} {sz : Nat} {xs : List Value} (h : w.ownsRow base t sz (.slice (some ⟨g, 0, none⟩) n c) m xs) : m ≤ c ∧ c ≤ maxLen := by
  rcases h.2 with ⟨e, _⟩ | ⟨g', c', cur, e, _, _, h1, h2, _⟩
  · cases e
  · injection e with _ _ e3
    subst e3
    exact ⟨h1, h2⟩
theorem DS.alloc {w0 w : World} {B : Nat} {A : Option Addr} {m cap g3 base P : Nat} {Av : Option Addr} {c : Nat} {Bv : Option Addr} {e : Nat} {d : Dk} {W : World} (h : DS w0 w B A m cap g3 base P Av c Bv e d W) (o : Obj) : DS w0 w B A m cap g3 base P Av c Bv e d (W.alloc o) := by
  obtain ⟨p, hp, hr⟩ := h.rd
  have bl : Below W.heap.size W (W.alloc o) := bel_new (Below.refl _ _) _
  exact ⟨h.bx.alloc o, h.br.alloc o, h.own.below bl, ⟨p, hp, hr.alloc o⟩, h.gr.trans (World.grownBy_alloc W o (some B)), h.small⟩
theorem grown_self (w : World) (r : Option Nat) : w.grownBy w r := ⟨rfl, rfl, rfl, Nat.le_refl _, fun _ _ _ => rfl⟩
theorem lit2 (W w2 : World) (B : Nat) (a b : Int) (hB : B < W.heap.size) (g : (W.alloc (.cells #[.int .i64 a, .int .i64 b] 3)).grownBy w2 (some B)) (k : Nat) (hk : k < 2) :
    ∃ y : Int, (y = a ∨ y = b) ∧ w2.cell? ⟨W.heap.size, k, none⟩ = some (.int .i64 y) := by
  rw [World.cell?_of_block (w := W.alloc (.cells #[.int .i64 a, .int .i64 b] 3)) (g.block W.heap.size (by simp) (fun e => by injection e with e; omega))]
  rcases (show k = 0 ∨ k = 1 by omega) with rfl | rfl
  · exact ⟨a, .inl rfl, by rw [World.cell?_alloc_mark]; rfl⟩
  · exact ⟨b, .inr rfl, by rw [World.cell?_alloc_mark]; rfl⟩
end Go.Proofs.Ytadgknkheachaaa
