/-
  Numbers in memory: their weight, a copy, whether two rows are equal, the marks of a law.
-/
import Derived.Test.YtmnamclndpfjnaaGen
import Derived.Test.YtmnamclndpfjnaaProg
namespace Go.Proofs.Ytmnamclndpfjnaa
open Go.RowKit

theorem Try.info3 : (Try.prog.info? 3).map (fun i => (i.zero, i.size, i.bytes)) = some (some (.int .i64 0), 1, 8) := by kernel_rfl
def SzPost (n : Nat) (L : Int) (w : World) (e : Ending) (w' : World) : Prop := ∃ z : Int, e = .returned (.int .i64 z) ∧ Below w.heap.size w w' ∧ (0 ≤ z → (n : Int) ≤ L - z)

set_option maxHeartbeats 1000000 in
theorem sz_ints (A : Option Addr) (cap : Nat) (n : Nat) (L : Int) (w : World) (hL0 : 0 ≤ L) (hL : L ≤ 1048576) (hn : n ≤ maxLen) :
    Calls Try.prog 83 #[.slice A n cap, .int .i64 L] w (SzPost n L w) := by
  unfold maxLen at hn
  by_cases h0 : L < (n : Int)
  · have h0' : L - (n : Int) < 0 := by omega
    go_enter Try.func83, Try.ntmps83
    go_wp2
    go_ret
    exact ⟨_, rfl, Below.refl _ _, by intro h; omega⟩
  · have h0' : ¬ L - (n : Int) < 0 := by omega
    go_enter Try.func83, Try.ntmps83
    go_wp2
    go_ret
    exact ⟨_, rfl, Below.refl _ _, by intro h; omega⟩

theorem set_next (xs : List Int) (k m : Nat) (h : k < xs.length) (hm : xs.length - k = m + 1) :
    (xs.take k ++ List.replicate (xs.length - k) (0 : Int)).set k xs[k] = xs.take (k + 1) ++ List.replicate (xs.length - (k + 1)) 0 := by
  have hl : (xs.take k).length = k := by simp; omega
  rw [hm, show xs.length - (k + 1) = m by omega, List.set_append_right _ _ (by omega), hl, Nat.sub_self, List.replicate_succ, List.set_cons_zero,
    List.take_succ_eq_append_getElem h, List.append_assoc]
  rfl
def ToPost (xs : List Int) (w : World) (e : Ending) (w' : World) : Prop :=
  ∃ g, e = .returned (.slice (some ⟨g, 0, none⟩) xs.length xs.length) ∧ w'.ownsRow w.heap.size 3 1 (.slice (some ⟨g, 0, none⟩) xs.length xs.length) xs.length (intCells xs) ∧ Below w.heap.size w w'

set_option maxHeartbeats 1000000 in
theorem to_ints (A : Option Addr) (cap : Nat) (xs : List Int) (w : World) (hn : xs.length ≤ 1048576) (hA : Lies w A (intCells xs)) :
    Calls Try.prog 85 #[.slice A xs.length cap] w (ToPost xs w) := by
  obtain ⟨i0, hi, hz0, hz1, hz2⟩ := info_parts Try.info3
  go_enter Try.func85, Try.ntmps85
  go_wp2_with (refine wpList_make_full _ rfl _ _ 23 rfl w.heap.size 3 i0 (.int .i64 0) 1 Try.underlying23 hi hz0 hz1 _ _ _ _ xs.length rfl rfl rfl rfl (by rw [hz2]; omega) (by unfold maxLen; omega) (Nat.le_refl _) ?_; intro w1 hown hgrow; rw [made_ints] at hown)
  go_loopw [4] (fun i wr => ∃ k : Nat, k ≤ xs.length ∧ i = .int .i64 k ∧ wr.ownsRow w.heap.size 3 1 (.slice (some ⟨w.heap.size, 0, none⟩) xs.length xs.length) xs.length (intCells (xs.take k ++ List.replicate (xs.length - k) 0)) ∧ Below w.heap.size w wr) (fun i _ => xs.length - (intOf i).toNat)
  case atStart => exact ⟨0, Nat.zero_le _, rfl, by simpa using hown, (Below.refl _ _).grown hgrow (Nat.le_refl _) (fun k e => by cases e)⟩
  case round =>
    obtain ⟨k, hk, rfl, ho, hb⟩ := hrel
    clear hown hgrow
    by_cases hlt : k < xs.length
    · obtain ⟨b, off, rfl, hlb, hck⟩ := (hA.below hb).int k hlt
      have hlen := ho.1
      have hcg : wr.cell? ⟨w.heap.size, k, none⟩ = some ((intCells (xs.take k ++ List.replicate (xs.length - k) 0))[k]'(by omega)) := by
        rw [ho.cellAt k (by omega)]
        exact List.getElem?_eq_getElem _
      have hfg := ho.frozenAt k
      obtain ⟨m, hm⟩ : ∃ m, xs.length - k = m + 1 := ⟨xs.length - k - 1, by omega⟩
      have hst := (ho.stored k (.int .i64 xs[k])).1
      have hsg := (ho.stored k (.int .i64 xs[k])).2
      rw [intCells_set, set_next xs k m hlt hm] at hst
      have B1 : Below w.heap.size w (wr.setCell ⟨w.heap.size, k, none⟩ (.int .i64 xs[k])) := hb.setCell (p := ⟨w.heap.size, k, none⟩) (Nat.le_refl _) _
      obtain ⟨y, hy⟩ : ∃ y, y = (intCells (xs.take k ++ List.replicate (xs.length - k) 0))[k]'(by omega) := ⟨_, rfl⟩
      rw [← hy] at hcg
      obtain ⟨x, hx⟩ : ∃ x, x = xs[k] := ⟨_, rfl⟩
      rw [← hx] at hck hst hsg B1
      clear hlen hm hy hx ho hb
      go_wp2
      go_roundw
      case rel => exact ⟨k + 1, by omega, by go_num, hst, B1⟩
      case measure => simp [intOf]; omega
    · have hke : k = xs.length := by omega
      subst hke
      rw [List.take_length, Nat.sub_self] at ho
      simp only [List.replicate_zero, List.append_nil] at ho
      go_wp2
      go_ret
      exact ⟨_, rfl, ho, hb⟩

set_option maxHeartbeats 1000000 in
theorem eq_ints (A B : Option Addr) (ca cb : Nat) (xs : List Int) (w : World) (hn : xs.length ≤ 1048576) (hA : Lies w A (intCells xs)) (hB : Lies w B (intCells xs)) :
    Calls Try.prog 79 #[.slice A xs.length ca, .slice B xs.length cb] w fun e w' => e = .returned (.bool true) ∧ Below w.heap.size w w' := by
  have hq0 : ((xs.length : Int) != (xs.length : Int)) = false := by simp
  go_enter Try.func79, Try.ntmps79
  go_wp2
  go_loopw [5] (fun i wr => ∃ k : Nat, k ≤ xs.length ∧ i = .int .i64 k ∧ Below w.heap.size w wr) (fun i _ => xs.length - (intOf i).toNat)
  case atStart => exact ⟨0, Nat.zero_le _, rfl, Below.refl _ _⟩
  case round =>
    obtain ⟨k, hk, rfl, hb⟩ := hrel
    by_cases hlt : k < xs.length
    · obtain ⟨b, off, rfl, hlb, hck⟩ := (hA.below hb).int k hlt
      obtain ⟨b2, off2, rfl, hlb2, hck2⟩ := (hB.below hb).int k hlt
      obtain ⟨x, hx⟩ : ∃ x, x = xs[k] := ⟨_, rfl⟩
      rw [← hx] at hck hck2
      have hq : (x != x) = false := by simp
      have hlt' : (k : Int) < (xs.length : Int) := by omega
      clear hx
      go_wp2_with fail
      go_quiet (fail)
      go_wp2
      go_roundw
      case rel => exact ⟨k + 1, by omega, by go_num, below_drewN hb _⟩
      case measure => simp [intOf]; omega
    · have hke : k = xs.length := by omega
      subst hke
      go_wp2
      go_ret
      exact ⟨rfl, hb⟩

/-- The marks of a law. -/
def marks (a : Int) (n : Nat) : List Int := (List.range n).map fun (i : Nat) => a + (i : Int)
theorem marks_len (a : Int) (n : Nat) : (marks a n).length = n := by simp [marks]
theorem marks_next (a : Int) (n : Nat) : marks a (n + 1) = marks a n ++ [a + (n : Int)] := by simp [marks, List.range_succ]
theorem marks_at (a : Int) (n k : Nat) (h : k < n) : (intCells (marks a n))[k]? = some (.int .i64 (a + (k : Int))) := by
  simp [intCells, marks, h]
theorem set_mark (a : Int) (xs : List Int) (k : Nat) (h : k < xs.length) : (marks a k ++ xs.drop k).set k (a + (k : Int)) = marks a (k + 1) ++ xs.drop (k + 1) := by
  rw [marks_next, List.drop_eq_getElem_cons h, List.set_append_right _ _ (by rw [marks_len]; omega), marks_len, Nat.sub_self, List.set_cons_zero, List.append_assoc]
  rfl
def MarkPost (base : Nat) (v : Value) (a : Int) (n : Nat) (w : World) (e : Ending) (w' : World) : Prop :=
  e = .returned (.int .i64 (a + (n : Int))) ∧ w'.ownsRow base 3 1 v n (intCells (marks a n)) ∧ w.grownBy w' v.ownBlock

set_option maxHeartbeats 1000000 in
theorem mark_ints (base : Nat) (A : Option Addr) (c : Nat) (xs : List Int) (a : Int) (w : World) (ha : 1 ≤ a) (hn : a + xs.length ≤ 9999999) (ho : w.ownsRow base 3 1 (.slice A xs.length c) xs.length (intCells xs)) :
    Calls Try.prog 81 #[.slice A xs.length c, .int .i64 a] w (MarkPost base (.slice A xs.length c) a xs.length w) := by
  go_enter Try.func81, Try.ntmps81
  go_wp2
  go_loopg [1, 5] xs.length (fun gh m i wr => ∃ k : Nat, gh = xs.length - k ∧ k ≤ xs.length ∧ i = .int .i64 k ∧ m = .int .i64 (a + (k : Int)) ∧ wr.ownsRow base 3 1 (.slice A xs.length c) xs.length (intCells (marks a k ++ xs.drop k)) ∧ w.grownBy wr (Value.slice A xs.length c).ownBlock)
  case atStart => exact ⟨0, rfl, Nat.zero_le _, rfl, by simp, by simpa [marks] using ho, World.grownBy.refl _ _⟩
  case round =>
    clear ho
    obtain ⟨k, hg, hk, rfl, rfl, ho, hb⟩ := hrel
    have HG := Lib.hid hg
    clear hg
    by_cases hlt : k < xs.length
    · obtain ⟨g, rfl⟩ := own_addr ho (by omega)
      have hset := set_mark a xs k hlt
      have hlt' : (k : Int) < (xs.length : Int) := by omega
      have hw1 := IntWalk.i64_in (a + (k : Int) + 1) (by omega)
      have hlen := ho.1
      have hcg : wr.cell? ⟨g, k, none⟩ = some ((intCells (marks a k ++ xs.drop k))[k]'(by omega)) := by
        rw [ho.cellAt k (by omega)]
        exact List.getElem?_eq_getElem _
      have hfg := ho.frozenAt k
      have hst := (ho.stored k (.int .i64 (a + (k : Int)))).1
      have hsg := (ho.stored k (.int .i64 (a + (k : Int)))).2
      rw [intCells_set, hset] at hst
      have G2 := grown_trans hb hsg
      obtain ⟨y, hy⟩ : ∃ y, y = (intCells (marks a k ++ xs.drop k))[k]'(by omega) := ⟨_, rfl⟩
      rw [← hy] at hcg
      clear hlen hy ho hb hset
      go_wp2_with fail
      go_roundg (xs.length - (k + 1))
      case measure => have := HG.out; omega
      case rel => exact ⟨k + 1, rfl, by omega, by go_num, by go_num, hst, G2⟩
    · have hke : k = xs.length := by omega
      subst hke
      rw [List.drop_length, List.append_nil] at ho
      go_wp2_with fail
      go_ret
      exact ⟨rfl, ho, hb⟩

set_option maxHeartbeats 1000000 in
theorem held_ints (A : Option Addr) (c n : Nat) (a : Int) (w : World) (ha : 1 ≤ a) (hn : a + n ≤ 9999999) (hA : Lies w A (intCells (marks a n))) :
    Calls Try.prog 82 #[.slice A n c, .int .i64 a] w fun e w' => e = .returned (.int .i64 (a + (n : Int))) ∧ w = w' := by
  go_enter Try.func82, Try.ntmps82
  go_wp2
  go_loop [1, 5] (fun m i => ∃ k : Nat, k ≤ n ∧ i = .int .i64 k ∧ m = .int .i64 (a + (k : Int))) (fun _ i => n - (intOf i).toNat)
  case atStart => exact ⟨0, Nat.zero_le _, rfl, by simp⟩
  case round =>
    obtain ⟨k, hk, rfl, rfl⟩ := hrel
    by_cases hlt : k < n
    · obtain ⟨b, off, rfl, hlb, hck⟩ := hA.int k (by rw [marks_len]; exact hlt)
      have hx : (marks a n)[k]'(by rw [marks_len]; exact hlt) = a + (k : Int) := by simp [marks]
      rw [hx] at hck
      have hq : ((a + (k : Int)) != (a + (k : Int))) = false := by simp
      have hlt' : (k : Int) < (n : Int) := by omega
      clear hx
      go_wp2_with fail
      go_round
      case rel => exact ⟨k + 1, by omega, by go_num, by go_num⟩
      case measure => simp [intOf]; omega
    · have hke : k = n := by omega
      subst hke
      go_wp2_with fail
      go_ret
      exact ⟨rfl, rfl⟩
end Go.Proofs.Ytmnamclndpfjnaa
