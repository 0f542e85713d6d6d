/-
  The marks that a law writes into a disk's memory, and how it looks whether they are still there.
-/
import Derived.Test.YtndckncoipkhaaaCtEq
namespace Go.Proofs.Ytndckncoipkhaaa.Cut
open Go.RowKit

theorem grown_trans {a b c : World} {r : Option Nat} (h : a.grownBy b r) (k : b.grownBy c r) : a.grownBy c r :=
  ⟨k.os.trans h.os, k.tape.trans h.tape, k.output.trans h.output, Nat.le_trans h.size k.size, fun i hi hne => (k.block i (Nat.lt_of_lt_of_le hi h.size) hne).trans (h.block i hi hne)⟩
theorem below_grown {a b : World} (h : Below a.heap.size a b) (r : Option Nat) : a.grownBy b r := ⟨h.os, h.tape, h.output, h.size, fun k hk _ => h.block k hk⟩
theorem own_addr {w : World} {base : Nat} {t : TypeId} {sz n m c : Nat} {A : Option Addr} {xs : List Value} (h : w.ownsRow base t sz (.slice A m c) n xs) (hn : 0 < n) : ∃ g, A = some ⟨g, 0, none⟩ := by
  rcases h.2 with ⟨_, h0⟩ | ⟨g, cap, _, e, _⟩
  · omega
  · cases e
    exact ⟨g, rfl⟩

def marks (a n : Nat) : List ByteArray := (List.range n).map fun i => strOf (markL (a + i))
theorem marks_len (a n : Nat) : (marks a n).length = n := by simp [marks]
theorem marks_next (a n : Nat) : marks a (n + 1) = marks a n ++ [strOf (markL (a + n))] := by simp [marks, List.range_succ]
theorem marks_at (a n k : Nat) (h : k < n) : (strCells (marks a n))[k]? = some (.string (strOf (markL (a + k)))) := by
  simp [strCells, marks, h]
theorem set_mark (a : Nat) (ss : List ByteArray) (k : Nat) (h : k < ss.length) :
    (strCells (marks a k ++ ss.drop k)).set k (.string (strOf (markL (a + k)))) = strCells (marks a (k + 1) ++ ss.drop (k + 1)) := by
  have hl : (strCells (marks a k)).length = k := by simp [strCells, marks]
  rw [marks_next, List.drop_eq_getElem_cons h]
  simp only [strCells, List.map_append, List.map_cons, List.append_assoc] at hl ⊢
  rw [List.set_append_right _ _ (by omega), hl, Nat.sub_self, List.set_cons_zero]
  rfl

def MarkPost (base : Nat) (t : TypeId) (v : Value) (a n : Nat) (w : World) (e : Ending) (w' : World) : Prop :=
  e = .returned (.int .i64 ((a : Int) + (n : Int))) ∧ w'.ownsRow base t 1 v n (strCells (marks a n)) ∧ w.grownBy w' v.ownBlock

set_option maxHeartbeats 1000000 in
theorem mark_strs (base : Nat) (t : TypeId) (A : Option Addr) (c : Nat) (ss : List ByteArray) (a : Nat) (w : World) (ha : 1 ≤ a) (hn : a + ss.length ≤ 9999999) (ho : w.ownsRow base t 1 (.slice A ss.length c) ss.length (strCells ss)) :
    Calls Try.prog 79 #[.slice A ss.length c, .int .i64 (a : Int)] w (MarkPost base t (.slice A ss.length c) a ss.length w) := by
  go_enter Try.func79, Try.ntmps79
  go_wp2
  go_loopg [1, 5] ss.length (fun gh m i wr => ∃ k : Nat, gh = ss.length - k ∧ k ≤ ss.length ∧ i = .int .i64 k ∧ m = .int .i64 ((a : Int) + (k : Int)) ∧ wr.ownsRow base t 1 (.slice A ss.length c) ss.length (strCells (marks a k ++ ss.drop k)) ∧ w.grownBy wr (Value.slice A ss.length c).ownBlock)
  case atStart => exact ⟨0, rfl, Nat.zero_le _, rfl, by simp, by simpa [marks] using ho, World.grownBy.refl _ _⟩
  case round =>
    clear ho
    obtain ⟨k, hg, hk, rfl, rfl, ho, hb⟩ := hrel
    have HG := Lib.hid hg
    clear hg
    by_cases hlt : k < ss.length
    · obtain ⟨g, rfl⟩ := own_addr ho (by omega)
      have hM := mark_text ((a : Int) + (k : Int)) wr (by omega) (by omega)
      rw [show ((a : Int) + (k : Int)).toNat = a + k by omega] at hM
      have hset := set_mark a ss k hlt
      obtain ⟨x, hx⟩ : ∃ x, x = strOf (markL (a + k)) := ⟨_, rfl⟩
      rw [← hx] at hM hset
      have hlt' : (k : Int) < (ss.length : Int) := by omega
      have hw1 := IntWalk.i64_in ((a : Int) + (k : Int) + 1) (by omega)
      clear hx
      go_wp2_with (go_at_call 108; refine hM.mono ?_; rintro e w1 ⟨rfl, hb1⟩; refine Hid.out ?_)
      refine Lib.hid ?_
      have ho1 := own_bel ho hb1
      have g1 := grown_trans hb (below_grown hb1 _)
      clear ho hb hM hb1
      have hlen := ho1.1
      have hcg : w1.cell? ⟨g, k, none⟩ = some ((strCells (marks a k ++ ss.drop k))[k]'(by omega)) := by
        rw [ho1.cellAt k (by omega)]
        exact List.getElem?_eq_getElem _
      have hfg := ho1.frozenAt k
      have hst := (ho1.stored k (.string x)).1
      have hsg := (ho1.stored k (.string x)).2
      rw [hset] at hst
      have G2 := grown_trans g1 hsg
      obtain ⟨y, hy⟩ : ∃ y, y = (strCells (marks a k ++ ss.drop k))[k]'(by omega) := ⟨_, rfl⟩
      rw [← hy] at hcg
      clear hlen hy ho1 g1 hset
      go_wp2_with fail
      go_roundg (ss.length - (k + 1))
      case measure => have := HG.out; omega
      case rel => exact ⟨k + 1, rfl, by omega, by go_num, by go_num, hst, G2⟩
    · have hke : k = ss.length := by omega
      subst hke
      rw [List.drop_length, List.append_nil] at ho
      go_wp2_with fail
      go_ret
      exact ⟨rfl, ho, hb⟩

set_option maxRecDepth 100000 in
set_option maxHeartbeats 1000000 in
theorem held_strs (base : Nat) (t : TypeId) (A : Option Addr) (c n a : Nat) (w : World) (ha : 1 ≤ a) (hn : a + n ≤ 9999999) (ho : w.ownsRow base t 1 (.slice A n c) n (strCells (marks a n))) :
    Calls Try.prog 81 #[.slice A n c, .int .i64 (a : Int)] w fun e w' => e = .returned (.int .i64 ((a : Int) + (n : Int))) ∧ Below w.heap.size w w' := by
  go_enter Try.func81, Try.ntmps81
  go_wp2
  go_loopg [1, 5] n (fun gh m i wr => ∃ k : Nat, gh = n - k ∧ k ≤ n ∧ i = .int .i64 k ∧ m = .int .i64 ((a : Int) + (k : Int)) ∧ Below w.heap.size w wr)
  case atStart => exact ⟨0, rfl, Nat.zero_le _, rfl, by simp, Below.refl _ _⟩
  case round =>
    obtain ⟨k, hg, hk, rfl, rfl, hb⟩ := hrel
    have HG := Lib.hid hg
    clear hg
    by_cases hlt : k < n
    · obtain ⟨g, rfl⟩ := own_addr ho (by omega)
      have hM := fun w => mark_text ((a : Int) + (k : Int)) w (by omega) (by omega)
      have hor := own_bel ho hb
      have hgl := (hor.lt g rfl).2
      have hck : wr.cell? ⟨g, k, none⟩ = some (.string (strOf (markL (a + k)))) := by rw [hor.cellAt k (by omega), marks_at a n k hlt]
      rw [show ((a : Int) + (k : Int)).toNat = a + k by omega] at hM
      obtain ⟨x, hx⟩ : ∃ x, x = strOf (markL (a + k)) := ⟨_, rfl⟩
      rw [← hx] at hM hck
      have hq : (!x.toList == x.toList) = false := by simp
      have hlt' : (k : Int) < (n : Int) := by omega
      have hw1 := IntWalk.i64_in ((a : Int) + (k : Int) + 1) (by omega)
      have HO := Lib.hid ho
      clear hx hor ho
      go_upto_region 4 with fail
      go_cut [18] (fun s wx => s = .bool false ∧ Below w.heap.size w wx)
      case first =>
        go_region_with (go_at_call 108; refine (hM _).mono ?_; rintro e w1 ⟨rfl, hb1⟩; have hcw : w1.cell? ⟨g, k, none⟩ = some (.string x) := (hb1.cell (p := ⟨g, k, none⟩) (by simpa using hgl)).trans hck)
        all_goals clear hM
        all_goals go_wp2_with fail
        all_goals go_meet
        all_goals exact ⟨rfl, hb.drew.trans (hb1.mono hb.size)⟩
      case rest =>
        obtain ⟨rfl, hb2⟩ := hcut
        go_wp2_with fail
        go_roundg (n - (k + 1))
        case measure => have := HG.out; omega
        case rel => exact ⟨k + 1, rfl, by omega, by go_num, by go_num, hb2⟩
    · have hke : k = n := by omega
      subst hke
      go_wp2_with fail
      go_ret
      exact ⟨rfl, hb⟩
end Go.Proofs.Ytndckncoipkhaaa.Cut
