/-
  Rows of texts and of waiting writes: how they lie in memory, and how they are copied by append.
-/
import Derived.Test.YtndckncoipkhaaaProg
import Derived.Test.YtndckncoipkhaaaCtDk
import Derived.BigQuiet
import Derived.Deep.QuietTactic
import Derived.Laws.OwnMore
import Derived.OwnWalk
import Derived.Below
import Derived.Deep.AppendLies
import Derived.Deep.Draws
import Derived.Deep.MidRow
import Derived.Deep.LoopGhost
import Derived.Deep.DeepCutAuto
import Derived.Deep.CutBlock
import Derived.Maps.AppendAt
import Derived.RegionTactic
import Derived.IntWalk
import Derived.WalkKit
import Derived.Lib.Hide
namespace Go.Proofs.Ytndckncoipkhaaa.Cut
open Go.RowKit

def strCells (ss : List ByteArray) : List Value := ss.map Value.string
theorem strCells_len (ss : List ByteArray) : (strCells ss).length = ss.length := by simp [strCells]
theorem strCells_app (a b : List ByteArray) : strCells (a ++ b) = strCells a ++ strCells b := by simp [strCells]
theorem strCells_at (ss : List ByteArray) (k : Nat) (h : k < ss.length) : (strCells ss)[k]? = some (.string ss[k]) := by simp [strCells, h]
theorem strCells_one (ss : List ByteArray) : ∀ u ∈ strCells ss, u.oneCell' = true := fun u hu => by
  obtain ⟨x, _, rfl⟩ := List.mem_map.1 hu
  rfl
def Wt.cells (x : Wt) : List Value := [.int .i64 x.num, .string x.text]
def wtCells (ws : List Wt) : List Value := ws.flatMap Wt.cells
theorem wtCells_len (ws : List Wt) : (wtCells ws).length = ws.length * 2 := by
  induction ws with
  | nil => rfl
  | cons x ws ih =>
    show (Wt.cells x ++ wtCells ws).length = _
    rw [List.length_append, ih, List.length_cons]
    show 2 + _ = _
    omega
theorem wtCells_app (a b : List Wt) : wtCells (a ++ b) = wtCells a ++ wtCells b := by simp [wtCells]
theorem wtCells_at : ∀ (ws : List Wt) (k : Nat) (h : k < ws.length), (wtCells ws)[k * 2]? = some (.int .i64 ws[k].num) ∧ (wtCells ws)[k * 2 + 1]? = some (.string ws[k].text)
  | x :: ws, 0, _ => ⟨rfl, rfl⟩
  | x :: ws, k + 1, h => by
    have ih := wtCells_at ws k (by simpa using h)
    constructor
    · show (Wt.cells x ++ wtCells ws)[(k + 1) * 2]? = _
      rw [List.getElem?_append_right (by show 2 ≤ _; omega)]
      show (wtCells ws)[(k + 1) * 2 - 2]? = _
      rw [show (k + 1) * 2 - 2 = k * 2 by omega]
      exact ih.1
    · show (Wt.cells x ++ wtCells ws)[(k + 1) * 2 + 1]? = _
      rw [List.getElem?_append_right (by show 2 ≤ _; omega)]
      show (wtCells ws)[(k + 1) * 2 + 1 - 2]? = _
      rw [show (k + 1) * 2 + 1 - 2 = k * 2 + 1 by omega]
      exact ih.2
theorem wtCells_one (ws : List Wt) : ∀ u ∈ wtCells ws, u.oneCell' = true := fun u hu => by
  obtain ⟨x, _, hx⟩ := List.mem_flatMap.1 hu
  simp only [Wt.cells, List.mem_cons, List.not_mem_nil, or_false] at hx
  rcases hx with rfl | rfl <;> rfl

/-- The cells xs lie behind the slice address A. -/
def Lies (w : World) (A : Option Addr) (xs : List Value) : Prop :=
  0 < xs.length → ∃ b off, A = some ⟨b, off, none⟩ ∧ b < w.heap.size ∧ ∀ j v, xs[j]? = some v → w.cell? ⟨b, off + j, none⟩ = some v
theorem Lies.nil (w : World) (A : Option Addr) : Lies w A [] := fun h => absurd h (by simp)
theorem Lies.below {w w' : World} {A : Option Addr} {xs : List Value} (h : Lies w A xs) (hb : Below w.heap.size w w') : Lies w' A xs := by
  intro h0
  obtain ⟨b, off, rfl, hlt, hc⟩ := h h0
  exact ⟨b, off, rfl, Nat.lt_of_lt_of_le hlt hb.size, fun j v hj => (hb.cell (p := ⟨b, off + j, none⟩) hlt).trans (hc j v hj)⟩
theorem Lies.alloc {w : World} {A : Option Addr} {xs : List Value} (h : Lies w A xs) (o : Obj) : Lies (w.alloc o) A xs := h.below ((Below.refl _ _).alloc (Nat.le_refl _) o)
theorem Lies.str {w : World} {A : Option Addr} {ss : List ByteArray} (h : Lies w A (strCells ss)) (k : Nat) (hk : k < ss.length) : ∃ b off, A = some ⟨b, off, none⟩ ∧ b < w.heap.size ∧ w.cell? ⟨b, off + k, none⟩ = some (.string ss[k]) := by
  obtain ⟨b, off, e, hlt, hc⟩ := h (by rw [strCells_len]; omega)
  exact ⟨b, off, e, hlt, hc k _ (strCells_at ss k hk)⟩
theorem Lies.wt {w : World} {A : Option Addr} {ws : List Wt} (h : Lies w A (wtCells ws)) (k : Nat) (hk : k < ws.length) : ∃ b off, A = some ⟨b, off, none⟩ ∧ b < w.heap.size ∧ w.cell? ⟨b, off + k * 2, none⟩ = some (.int .i64 ws[k].num) ∧ w.cell? ⟨b, off + k * 2 + 1, none⟩ = some (.string ws[k].text) := by
  obtain ⟨b, off, e, hlt, hc⟩ := h (by rw [wtCells_len]; omega)
  have a := wtCells_at ws k hk
  refine ⟨b, off, e, hlt, hc _ _ a.1, ?_⟩
  rw [show off + k * 2 + 1 = off + (k * 2 + 1) by omega]
  exact hc _ _ a.2
/-- A row of the call's own leads to its cells. -/
theorem own_lies {w : World} {base : Nat} {t : TypeId} {sz n : Nat} {v : Value} {xs : List Value} (h : w.ownsRow base t sz v n xs) : ∃ A c, v = .slice A n c ∧ Lies w A xs := by
  have hl := h.1
  have hc := fun g hg => h.cells (g := g) hg
  have hlt := fun g hg => h.lt g hg
  rcases h.2 with ⟨rfl, rfl⟩ | ⟨g, cap, cur, rfl, _⟩
  · refine ⟨none, 0, rfl, fun h0 => ?_⟩
    rw [hl] at h0
    omega
  · refine ⟨some ⟨g, 0, none⟩, cap, rfl, fun _ => ⟨g, 0, rfl, (hlt g rfl).2, fun j v hj => ?_⟩⟩
    have := hc g rfl j v hj
    rwa [Addr.add_mid] at this
theorem own_bel {w w' : World} {base : Nat} {t : TypeId} {sz n : Nat} {v : Value} {xs : List Value} (h : w.ownsRow base t sz v n xs) (hb : Below w.heap.size w w') : w'.ownsRow base t sz v n xs := by
  refine h.kept (row := none) ⟨hb.os, hb.tape, hb.output, hb.size, fun k hk _ => hb.block k hk⟩ ?_
  cases v.ownBlock with
  | none => exact .inl rfl
  | some k => exact .inr (by simp)
theorem bel_then {a b c : World} (h : Below a.heap.size a b) (k : Below b.heap.size b c) : Below a.heap.size a c := h.trans (k.mono h.size)
theorem bel_new {a b : World} (h : Below a.heap.size a b) (o : Obj) : Below a.heap.size a (b.alloc o) := h.alloc h.size o
end Go.Proofs.Ytndckncoipkhaaa.Cut
