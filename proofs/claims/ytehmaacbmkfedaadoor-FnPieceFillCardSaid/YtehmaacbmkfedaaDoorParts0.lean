/-
  readParts, the program's: the five numbers of a text, or that they are not five.
-/
import Derived.Test.YtehmaacbmkfedaaDoorGetSp
namespace Go.Proofs.YtehmaacbmkfedaaDoor
open Go.RowKit

theorem gSyn : Tryd.prog.globalNamed "strconv.ErrSyntax" = some 4 := by kernel_rfl
theorem gRng : Tryd.prog.globalNamed "strconv.ErrRange" = some 5 := by kernel_rfl
theorem var_on {w w' : World} {g : Nat} {n : String} {cs : Array Value} (hg : Tryd.prog.globalNamed n = some g) (h : w.var? Tryd.prog n = some cs) (hb : Below w.heap.size w w') : w'.var? Tryd.prog n = some cs := by
  unfold World.var? at *
  simp only [hg, Option.bind_some] at h ⊢
  have hlt : g < w.heap.size := by
    rcases Nat.lt_or_ge g w.heap.size with h' | h'
    · exact h'
    · rw [Array.getElem?_eq_none h'] at h
      simp at h
  rw [hb.block g hlt]
  exact h
theorem Errs.below {w w' : World} (h : Errs w) (hb : Below w.heap.size w w') : Errs w' := by
  obtain ⟨a, b, h1⟩ := h.synt
  obtain ⟨c, d, h2⟩ := h.rang
  exact ⟨⟨a, b, var_on gSyn h1 hb⟩, ⟨c, d, var_on gRng h2 hb⟩⟩
/-- internal/bytealg.MaxLen holds some integer. -/
def MaxL (w : World) : Prop := ∃ m : Int, w.cell? ⟨0, 0, none⟩ = some (.int .i64 m)
theorem MaxL.below {w w' : World} (h : MaxL w) (hb : Below w.heap.size w w') : MaxL w' := by
  obtain ⟨m, hm⟩ := h
  exact ⟨m, (hb.cell (World.block_lt_of_cell? _ _ hm)).trans hm⟩
/-- All that the program's reading of numbers asks of the world. -/
def Env (w : World) : Prop := Tab w ∧ Errs w ∧ MaxL w
theorem Env.at {w w' : World} (h : Env w) (hb : Below w.heap.size w w') : Env w' := ⟨h.1.at hb, h.2.1.below hb, h.2.2.below hb⟩

theorem cellsOf_at (ps : List ByteArray) (N j : Nat) (h : j < ps.length) : (Lib.cellsOf ps N)[j]? = some (.string ps[j]) := by
  unfold Lib.cellsOf
  rw [List.getElem?_toArray, List.getElem?_append_left (by simpa using h), List.getElem?_map, List.getElem?_eq_getElem h]
  rfl
theorem splitN_any (s : ByteArray) (c : UInt8) (n : Nat) (w : World) (hs : s.size ≤ 1048576) (hM : MaxL w) (hn : 1 ≤ n) (hn9 : n ≤ 1000) :
    Calls Tryd.prog 93 #[.string s, .string ⟨#[c]⟩, .int .i64 n] w fun e w' =>
      ∃ g cap, e = .returned (.slice (some ⟨g, 0, none⟩) (Lib.splitB ⟨#[c]⟩ 0 (min n (s.size + 1) - 1) s).length cap) ∧ StrsAt w' (some ⟨g, 0, none⟩) (Lib.splitB ⟨#[c]⟩ 0 (min n (s.size + 1) - 1) s) ∧ Below w.heap.size w w' := by
  obtain ⟨m, hm⟩ := hM
  refine (Tryd.strings_SplitN s ⟨#[c]⟩ n m w (by omega) hm (Nat.le_refl _) hn (by omega)).mono fun e w' ⟨he, hw⟩ => ?_
  subst hw
  refine ⟨_, _, he, fun h0 => ⟨_, _, rfl, by simp, fun j hj => ?_⟩, bel_fresh w⟩
  rw [Nat.zero_add, World.cell?_alloc_mark]
  exact cellsOf_at _ _ j hj

theorem inum_yes (p : ByteArray) (W : World) (hp : p.size ≤ 1048576) (hE : Env W) (h : isNum p = true) : Calls Tryd.prog 79 #[.string p] W fun e w' => e = .returned (.tuple #[.int .i64 (numV p), .bool true]) ∧ Below W.heap.size W w' :=
  (impl_numget p W (by omega) hE.1 hE.2.1).mono fun e w' ⟨e1, e2⟩ => ⟨by rw [e1]; unfold isNum at h; rw [h]; rfl, e2⟩
theorem inum_no (p : ByteArray) (W : World) (hp : p.size ≤ 1048576) (hE : Env W) (h : ¬ isNum p = true) : Calls Tryd.prog 79 #[.string p] W fun e w' => e = .returned (.tuple #[.int .i64 (numV p), .bool false]) ∧ Below W.heap.size W w' :=
  (impl_numget p W (by omega) hE.1 hE.2.1).mono fun e w' ⟨e1, e2⟩ => ⟨by
    have h2 : (numG p.data.toList).2 = false := by simpa [isNum] using h
    rw [e1, h2]
    rfl, e2⟩
end Go.Proofs.YtehmaacbmkfedaaDoor
