/-
  A power failure, as the model reckons it.
-/
import Derived.Test.YtimpdjlgfjehcaaMB
import Derived.Test.YtimpdjlgfjehcaaWrS
import Derived.Deep.RegionHeldLaw
namespace Go.Proofs.Ytimpdjlgfjehcaa
open Go.RowKit

theorem own_ne_box {w : World} {base : Nat} {t : TypeId} {sz n : Nat} {v : Value} {xs : List Value} {g : Nat} {tb : TypeId} {x y z : Value} (h : w.ownsRow base t sz v n xs) (b : Bx w g tb x y z) (ht : t ≠ tb) : v.ownBlock ≠ some g := by
  rcases h.2 with ⟨rfl, _⟩ | ⟨g', cap, cur, rfl, hb, hgg, rest⟩
  · simp [Value.ownBlock]
  · intro e
    simp only [Value.ownBlock, Option.some.injEq] at e
    subst e
    have b' : w.heap[g']? = some (.cells #[x, y, z] tb (0, 0)) := b
    rw [hgg] at b'
    injection b' with b'
    injection b' with _ hh
    exact ht hh
theorem strCells_set (cs : List ByteArray) (i : Nat) (s : ByteArray) : (strCells cs).set i (.string s) = strCells (cs.set i s) := by
  unfold strCells
  rw [List.map_set]
/-- A text is stored in a row of the call's own. -/
theorem own_store {w : World} {base g c n : Nat} {t : TypeId} {cs : List ByteArray} (h : w.ownsRow base t 1 (.slice (some ⟨g, 0, none⟩) n c) n (strCells cs)) (i : Nat) (s : ByteArray) :
    (w.setCell ⟨g, i, none⟩ (.string s)).ownsRow base t 1 (.slice (some ⟨g, 0, none⟩) n c) n (strCells (cs.set i s)) := by
  have := (h.stored i (.string s)).1
  rw [strCells_set] at this
  exact this
/-- What the crash's loop keeps. -/
structure CrK (base : Nat) (t : TypeId) (g c : Nat) (B : Option Addr) (e : Nat) (ws : List Wt) (gone : Bool) (w W : World) (cs : List ByteArray) : Prop where
  b3 : Bx W w.heap.size 26 (.slice (some ⟨g, 0, none⟩) 64 c) (.slice B ws.length e) (.bool gone)
  b6 : Bx W (w.heap.size + 1) 26 (.slice none 0 0) (.slice none 0 0) (.bool false)
  row : W.ownsRow base t 1 (.slice (some ⟨g, 0, none⟩) 64 c) 64 (strCells cs)
  wts : W.ownsRow base 32 2 (.slice B ws.length e) ws.length (wtCells ws)
  bel : Below base w W
theorem CrK.below {base : Nat} {t : TypeId} {g c : Nat} {B : Option Addr} {e : Nat} {ws : List Wt} {gone : Bool} {w W W' : World} {cs : List ByteArray} (h : CrK base t g c B e ws gone w W cs) (hb : Below W.heap.size W W') (hs : base ≤ w.heap.size) : CrK base t g c B e ws gone w W' cs :=
  ⟨h.b3.below hb, h.b6.below hb, own_bel h.row hb, own_bel h.wts hb, h.bel.trans (hb.mono (Nat.le_trans hs h.bel.size))⟩
theorem CrK.store {base : Nat} {t : TypeId} {g c : Nat} {B : Option Addr} {e : Nat} {ws : List Wt} {gone : Bool} {w W : World} {cs : List ByteArray} (h : CrK base t g c B e ws gone w W cs) (ht : t = 9 ∨ t = 51) (i : Nat) (s : ByteArray) : CrK base t g c B e ws gone w (W.setCell ⟨g, i, none⟩ (.string s)) (cs.set i s) := by
  have n3 := own_ne_box h.row h.b3 (by rcases ht with rfl | rfl <;> decide)
  have n6 := own_ne_box h.row h.b6 (by rcases ht with rfl | rfl <;> decide)
  have nw := own_ne h.row h.wts (by rcases ht with rfl | rfl <;> decide)
  have hg : g ≠ w.heap.size := fun e => n3 (by rw [e]; rfl)
  have hg2 : g ≠ w.heap.size + 1 := fun e => n6 (by rw [e]; rfl)
  exact ⟨h.b3.set (p := ⟨g, i, none⟩) hg.symm _, h.b6.set (p := ⟨g, i, none⟩) hg2.symm _, own_store h.row i s,
    h.wts.kept (row := some g) ⟨rfl, rfl, rfl, by simp [World.setCell], fun k _ hk => Below.heap_setCell _ _ _ k (fun e => hk (by rw [e]))⟩ nw,
    h.bel.setCell (p := ⟨g, i, none⟩) (h.row.lt g rfl).1 _⟩

theorem stp_bit {mask tear : Int} {i : Nat} {x : Wt} {cs : List ByteArray} (h : bitM mask i = true) : stp mask tear i x cs = cs.set x.num.toNat x.text := by
  unfold stp; rw [if_pos h]
theorem stp_tear {mask tear : Int} {i : Nat} {x : Wt} {cs : List ByteArray} (h : bitM mask i = false) (ht : (i : Int) = tear) : stp mask tear i x cs = cs.set x.num.toNat (torn (cs.getD x.num.toNat none8) x.text) := by
  unfold stp; rw [if_neg (by rw [h]; decide), if_pos ht]
theorem stp_none {mask tear : Int} {i : Nat} {x : Wt} {cs : List ByteArray} (h : bitM mask i = false) (ht : ¬ (i : Int) = tear) : stp mask tear i x cs = cs := by
  unfold stp; rw [if_neg (by rw [h]; decide), if_neg ht]

def CPost (base : Nat) (D : Dk) (w : World) (r : Ending) (w' : World) : Prop :=
  ∃ A c B e, r = .returned (.agg #[.slice A D.cells.length c, .slice B D.waits.length e, .bool D.gone]) ∧ DkOwn w' base (.agg #[.slice A D.cells.length c, .slice B D.waits.length e, .bool D.gone]) D ∧ Below base w w'

/-- The numbers of a bit. -/
theorem bit_nums (mask : Int) (i : Nat) (h0 : 0 ≤ mask) (h1 : mask ≤ 9223372036854775807) : ∃ (k : Nat) (q : Int), k < 60 ∧ 0 ≤ q ∧ q ≤ 9223372036854775807 ∧ bitM mask i = decide (q % 2 = 1) ∧ (i : Int).tmod 60 = (k : Int) ∧ (i : Int) % 60 = (k : Int) ∧ mask / 2 ^ k = q ∧ q.tmod 2 = q % 2 := by
  refine ⟨i % 60, mask / 2 ^ (i % 60), Nat.mod_lt _ (by decide), ?_, ?_, rfl, ?_, rfl, rfl, ?_⟩
  · exact Int.ediv_nonneg h0 (Int.le_of_lt (Int.pow_pos (by decide)))
  · exact Int.le_trans (Int.ediv_le_self _ h0) h1
  · rw [Int.tmod_eq_emod_of_nonneg (by omega)]; rfl
  · exact Int.tmod_eq_emod_of_nonneg (Int.ediv_nonneg h0 (Int.le_of_lt (Int.pow_pos (by decide))))
end Go.Proofs.Ytimpdjlgfjehcaa
