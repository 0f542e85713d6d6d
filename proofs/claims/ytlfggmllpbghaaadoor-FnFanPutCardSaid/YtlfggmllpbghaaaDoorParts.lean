/-
  readParts, the program's: the five numbers of a text, or that they are not five.
-/
import Derived.Test.YtlfggmllpbghaaaDoorGetSp
namespace Go.Proofs.YtlfggmllpbghaaaDoor
open Go.RowKit

theorem gSyn : Tryd.prog.globalNamed "strconv.ErrSyntax" = some 1 := by kernel_rfl
theorem gRng : Tryd.prog.globalNamed "strconv.ErrRange" = some 2 := by kernel_rfl
theorem var_on {w w' : World} {g : Nat} {n : String} {cs : Array Value} (hg : Tryd.prog.globalNamed n = some g) (h : w.var? Tryd.prog n = some cs) (hb : Below w.heap.size w w') : w'.var? Tryd.prog n = some cs := by
  unfold World.var? at *
  simp only [hg, Option.bind_some] at h ⊢
  have hlt : g < w.heap.size := by
    rcases Nat.lt_or_ge g w.heap.size with h' | h'
    · exact h'
    · rw [Array.getElem?_eq_none h'] at h
      simp at h
  rw [hb.block g hlt]
  exact h
theorem Errs.below {w w' : World} (h : Errs w) (hb : Below w.heap.size w w') : Errs w' := by
  obtain ⟨a, b, h1⟩ := h.synt
  obtain ⟨c, d, h2⟩ := h.rang
  exact ⟨⟨a, b, var_on gSyn h1 hb⟩, ⟨c, d, var_on gRng h2 hb⟩⟩
/-- internal/bytealg.MaxLen holds some integer. -/
def MaxL (w : World) : Prop := ∃ m : Int, w.cell? ⟨0, 0, none⟩ = some (.int .i64 m)
theorem MaxL.below {w w' : World} (h : MaxL w) (hb : Below w.heap.size w w') : MaxL w' := by
  obtain ⟨m, hm⟩ := h
  exact ⟨m, (hb.cell (World.block_lt_of_cell? _ _ hm)).trans hm⟩
/-- All that the program's reading of numbers asks of the world. -/
def Env (w : World) : Prop := Tab w ∧ Errs w ∧ MaxL w
theorem Env.at {w w' : World} (h : Env w) (hb : Below w.heap.size w w') : Env w' := ⟨h.1.at hb, h.2.1.below hb, h.2.2.below hb⟩

theorem cellsOf_at (ps : List ByteArray) (N j : Nat) (h : j < ps.length) : (Lib.cellsOf ps N)[j]? = some (.string ps[j]) := by
  unfold Lib.cellsOf
  rw [List.getElem?_toArray, List.getElem?_append_left (by simpa using h), List.getElem?_map, List.getElem?_eq_getElem h]
  rfl
theorem splitN_any (s : ByteArray) (c : UInt8) (n : Nat) (w : World) (hs : s.size ≤ 1048576) (hM : MaxL w) (hn : 1 ≤ n) (hn9 : n ≤ 1000) :
    Calls Tryd.prog 56 #[.string s, .string ⟨#[c]⟩, .int .i64 n] w fun e w' =>
      ∃ g cap, e = .returned (.slice (some ⟨g, 0, none⟩) (Lib.splitB ⟨#[c]⟩ 0 (min n (s.size + 1) - 1) s).length cap) ∧ StrsAt w' (some ⟨g, 0, none⟩) (Lib.splitB ⟨#[c]⟩ 0 (min n (s.size + 1) - 1) s) ∧ Below w.heap.size w w' := by
  obtain ⟨m, hm⟩ := hM
  refine (Tryd.strings_SplitN s ⟨#[c]⟩ n m w (by omega) hm (Nat.le_refl _) hn (by omega)).mono fun e w' ⟨he, hw⟩ => ?_
  subst hw
  refine ⟨_, _, he, fun h0 => ⟨_, _, rfl, by simp, fun j hj => ?_⟩, bel_fresh w⟩
  rw [Nat.zero_add, World.cell?_alloc_mark]
  exact cellsOf_at _ _ j hj

/-- An array of five integers in a block of its own. -/
def Vec (B : Nat) (f : Nat → Int) (W : World) : Prop := ∃ cur, W.heap[B]? = some (.cells cur 76 (0, 0)) ∧ cur.size = 5 ∧ ∀ k, k < 5 → cur[k]? = some (.int .i64 (f k))
theorem Vec.lt {B : Nat} {f : Nat → Int} {W : World} (h : Vec B f W) : B < W.heap.size := by
  obtain ⟨cur, h1, _⟩ := h
  exact (Array.getElem?_eq_some_iff.1 h1).1
theorem Vec.cell {B : Nat} {f : Nat → Int} {W : World} (h : Vec B f W) (k : Nat) (hk : k < 5) : W.cell? ⟨B, k, none⟩ = some (.int .i64 (f k)) := by
  obtain ⟨cur, h1, _, h3⟩ := h
  simp [World.cell?, h1, h3 k hk]
theorem Vec.free {B : Nat} {f : Nat → Int} {W : World} (h : Vec B f W) (k : Nat) : W.frozen? ⟨B, k, none⟩ = false := by
  obtain ⟨cur, h1, _, _⟩ := h
  simp [World.frozen?, h1]
theorem Vec.next {B : Nat} {f : Nat → Int} {W W' : World} (h : Vec B f W) (hb : Below W.heap.size W W') : Vec B f W' := by
  have hl := h.lt
  obtain ⟨cur, h1, h2, h3⟩ := h
  exact ⟨cur, (hb.block B hl).trans h1, h2, h3⟩
theorem Vec.new (W : World) : Vec W.heap.size (fun _ => 0) (W.alloc (.cells #[.int .i64 0, .int .i64 0, .int .i64 0, .int .i64 0, .int .i64 0] 76)) :=
  ⟨_, heap_alloc_new W _, rfl, fun k hk => by rcases (show k = 0 ∨ k = 1 ∨ k = 2 ∨ k = 3 ∨ k = 4 by omega) with rfl | rfl | rfl | rfl | rfl <;> rfl⟩
theorem Vec.set {B : Nat} {f f' : Nat → Int} {W : World} (h : Vec B f W) (k : Nat) (v : Int) (hk : k < 5) (hv : f' k = v) (hf : ∀ i, i ≠ k → f' i = f i) : Vec B f' (W.setCell ⟨B, k, none⟩ (.int .i64 v)) := by
  obtain ⟨cur, h1, h2, h3⟩ := h
  refine ⟨cur.setIfInBounds k (.int .i64 v), ?_, by simpa using h2, fun i hi => ?_⟩
  · simp [World.setCell, Array.getElem?_modify, h1]
  · by_cases e : k = i
    · subst e
      rw [Array.getElem?_setIfInBounds_self_of_lt (by omega), hv]
    · rw [Array.getElem?_setIfInBounds_ne e, h3 i hi, hf i (Ne.symm e)]
theorem RBox.set {g B k : Nat} {W : World} (h : RBox g W) (hn : B ≠ g) (v : Value) : RBox g (W.setCell ⟨B, k, none⟩ v) := by
  unfold RBox at *
  simp [World.setCell, Array.getElem?_modify, hn, h]
theorem StrsAt.set {w : World} {g B k : Nat} {ss : List ByteArray} (h : StrsAt w (some ⟨g, 0, none⟩) ss) (hn : B ≠ g) (v : Value) : StrsAt (w.setCell ⟨B, k, none⟩ v) (some ⟨g, 0, none⟩) ss := by
  intro h0
  obtain ⟨b, off, e, hlt, hc⟩ := h h0
  cases e
  exact ⟨g, 0, rfl, by simpa [World.setCell] using hlt, fun j hj => by rw [World.cell?_setCell_other (h := fun e => hn (congrArg Addr.block e)), hc j hj]⟩

end Go.Proofs.YtlfggmllpbghaaaDoor
