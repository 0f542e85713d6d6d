/-
  Rows of numbers that a law makes: what the walks ask of them; and what a set of disks behind a power failure is like.
-/
import Derived.Test.YtndckncoipkhaaaRCp2
import Derived.Test.YtndckncoipkhaaaRW
namespace Go.Proofs.Ytndckncoipkhaaa
open Go.RowKit

/-- Numbers in a row of its own, in a block from lo to hi. -/
def IK (W : World) (lo hi g : Nat) (xs : List Int) : Prop := W.ownsRow lo 3 1 (.slice (some ⟨g, 0, none⟩) xs.length xs.length) xs.length (intCells xs) ∧ lo ≤ g ∧ g < hi
theorem IK.below {W W' : World} {lo hi g : Nat} {xs : List Int} (h : IK W lo hi g xs) (hb : Below W.heap.size W W') : IK W' lo hi g xs := ⟨own_bel h.1 hb, h.2⟩
theorem IK.only {W W' : World} {a b lo hi g : Nat} {xs : List Int} (h : IK W lo hi g xs) (hg : Only a b W W') (hn : b ≤ lo ∨ hi ≤ a) : IK W' lo hi g xs := ⟨own_only h.1 hg (fun k e => by cases e; have := h.2; show ¬ (a ≤ g ∧ g < b); omega), h.2⟩
theorem IK.lies {W : World} {lo hi g : Nat} {xs : List Int} (h : IK W lo hi g xs) : Lies W (some ⟨g, 0, none⟩) (intCells xs) := by
  obtain ⟨A', c', e, hl⟩ := own_lies h.1
  cases e
  exact hl
theorem toi {M : Option Addr} {mc : Nat} {xs : List Int} {w : World} (hn : xs.length ≤ 1048576) (hA : Lies w M (intCells xs)) :
    Calls Try.prog 30 #[.slice M xs.length mc] w fun r w' => ∃ g, r = .returned (.slice (some ⟨g, 0, none⟩) xs.length xs.length) ∧ IK w' w.heap.size w'.heap.size g xs ∧ Below w.heap.size w w' :=
  (to_ints M mc xs w hn hA).mono fun _ _ ⟨g, e, o, hb⟩ => ⟨g, e, ⟨o, (o.lt g rfl).1, (o.lt g rfl).2⟩, hb⟩
theorem eqi {lo hi g : Nat} {lo' hi' g' : Nat} {xs : List Int} {w : World} (hn : xs.length ≤ 1048576) (h1 : IK w lo hi g xs) (h2 : IK w lo' hi' g' xs) :
    Calls Try.prog 32 #[.slice (some ⟨g, 0, none⟩) xs.length xs.length, .slice (some ⟨g', 0, none⟩) xs.length xs.length] w fun e w' => e = .returned (.bool true) ∧ Below w.heap.size w w' :=
  eq_ints _ _ _ _ xs w hn h1.lies h2.lies
theorem marki {lo hi g : Nat} {xs : List Int} {a : Int} {w : World} (ha : 1 ≤ a) (hn : a + xs.length ≤ 9999999) (h : IK w lo hi g xs) :
    Calls Try.prog 33 #[.slice (some ⟨g, 0, none⟩) xs.length xs.length, .int .i64 a] w fun r w' => r = .returned (.int .i64 (a + (xs.length : Int))) ∧ Only lo hi w w' :=
  (mark_ints lo _ _ xs a w ha hn h.1).mono fun _ _ ⟨e, _, gr⟩ => ⟨e, Only.of_grown gr (fun k hk => by cases hk; exact h.2)⟩

theorem bulk_crash {d : Dk} {mask tear : Int} (h : DkOk d) (h0 : 0 ≤ mask) : Bulk (crashD d mask tear) ∧ (crashD d mask tear).cells.length ≤ 64 ∧ (crashD d mask tear).waits.length ≤ 120 := by
  rw [crashD_yes h h0]
  obtain ⟨h64, _, _, hsm, hws⟩ := h
  have hl := st_len d.waits mask tear d.cells d.waits.length
  have hs := st_small (mask := mask) (tear := tear) hsm hws d.waits.length
  refine ⟨⟨by simp only [hl]; omega, Nat.zero_le _, fun s hs' => ?_, fun x hx => by cases hx⟩, by simp only [hl]; omega, Nat.zero_le _⟩
  exact Nat.le_trans (hs s hs') (by decide)
theorem small_crash {R : List Dk} {ms ts : List Int} : Small (crashR R ms ts) := by
  by_cases h : GoodM R ms ts
  · rw [crashR_yes h]
    obtain ⟨hok, hm, ht, hpos⟩ := h
    refine small_three (by rw [crL_len]; exact hok.1) fun d hd => ?_
    obtain ⟨j, hj, rfl⟩ := List.getElem_of_mem hd
    rw [crL_len] at hj
    have h3 := hok.1
    rw [crL_at R ms ts j hj (by omega) (by omega)]
    exact bulk_crash (hok.2 _ (List.getElem_mem hj)) (hpos _ (List.getElem_mem _))
  · rw [crashR_no h]
    exact small_nil
end Go.Proofs.Ytndckncoipkhaaa
