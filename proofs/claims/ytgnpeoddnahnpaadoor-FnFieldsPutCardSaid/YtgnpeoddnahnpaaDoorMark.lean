/-
  The marks that a law writes into an answer's memory, and how it looks whether they are still there.
-/
import Derived.Test.YtgnpeoddnahnpaaDoorJoinWalk
namespace Go.Proofs.YtgnpeoddnahnpaaDoor
open Go.RowKit

def markL (k : Nat) : List UInt8 := 109 :: Lib.decDigits k

theorem dec_len7 (k : Nat) (h : k ≤ 9999999) : (Lib.decDigits k).length ≤ 7 := dec_length 6 k (by omega)

set_option maxRecDepth 100000 in
set_option maxHeartbeats 1000000 in
theorem mark_text (a : Int) (w : World) (h1 : 1 ≤ a) (h2 : a ≤ 9999999) :
    Calls Tryd.prog 35 #[.int .i64 a] w fun e w' => e = .returned (.string (strOf (markL a.toNat))) ∧ Below w.heap.size w w' := by
  obtain ⟨k, rfl⟩ : ∃ k : Nat, a = (k : Int) := ⟨a.toNat, by omega⟩
  rw [Int.toNat_natCast]
  have hk7 := dec_len7 k (by omega)
  have h1' : ¬ (k : Int) ≤ 0 := by omega
  go_enter Tryd.func35, Tryd.ntmps35
  go_wp2
  go_loopg [0, 3] k (fun g i o wr => ∃ (j : Nat) (l : List UInt8), g = j ∧ i = .int .i64 j ∧ o = .string (strOf l) ∧ l.length ≤ 7 ∧ j ≤ 9999999 ∧ (0 < j → Lib.decDigits k = Lib.decDigits j ++ l) ∧ (j = 0 → l = Lib.decDigits k) ∧ Below w.heap.size w wr)
  case atStart => exact ⟨k, [], rfl, rfl, rfl, by simp, by omega, fun _ => by simp, fun h => by omega, Below.refl _ _⟩
  case round =>
    obtain ⟨j, l, hg, rfl, rfl, hl, hj, hp, hz, hb⟩ := hrel
    have HG := Lib.hid hg
    clear hg
    by_cases hj0 : 0 < j
    · have hjj : (0 : Int) < (j : Int) := by omega
      obtain ⟨q, hq⟩ : ∃ q, q = j / 10 := ⟨_, rfl⟩
      obtain ⟨m, hm⟩ : ∃ m, m = j % 10 := ⟨_, rfl⟩
      have hm9 : m < 10 := by omega
      have hn := dig_nums (m : Int) (by omega) (by omega)
      rw [Int.toNat_natCast] at hn
      have hnew : (0 < q → Lib.decDigits k = Lib.decDigits q ++ (UInt8.ofNat (48 + m) :: l)) ∧ (q = 0 → UInt8.ofNat (48 + m) :: l = Lib.decDigits k) := by
        have hp' := hp hj0
        by_cases h10 : j < 10
        · rw [dec_small j h10] at hp'
          have : m = j := by omega
          subst this
          exact ⟨fun h => by omega, fun _ => by rw [hp']; rfl⟩
        · rw [dec_more j h10, ← hq, ← hm] at hp'
          exact ⟨fun _ => by rw [hp']; simp, fun h => by omega⟩
      obtain ⟨x, hx⟩ : ∃ x, x = UInt8.ofNat (48 + m) := ⟨_, rfl⟩
      rw [← hx] at hn hnew
      have hl2 : (x :: l).length ≤ 7 := by
        rcases Nat.eq_zero_or_pos q with h | h
        · rw [hnew.2 h]; exact hk7
        · have := congrArg List.length (hnew.1 h)
          rw [List.length_append] at this
          omega
      have hadd := add_strs Tryd.prog [x] l (by simp; omega)
      have hcv : ∀ (W : World) (B : Nat), W.cell? ⟨B, 0, none⟩ = some (.int .u8 (48 + (m : Int))) → (convert 36 9 (.slice (some ⟨B, 0, none⟩) 1 1)).run Tryd.prog W = .ok (.string (strOf [x])) W := fun W B h => conv_one W B x (by rw [h, hn])
      have hd : ((j : Int)).tdiv 10 = (q : Int) := by rw [Int.tdiv_eq_ediv_of_nonneg (by omega)]; omega
      have hmm : ((j : Int)).tmod 10 = (m : Int) := by rw [Int.tmod_eq_emod_of_nonneg (by omega)]; omega
      have hwq : IntKind.i64.wrap (q : Int) = q := IntWalk.i64_in _ (by omega)
      have hwm : IntKind.i64.wrap (48 + (m : Int)) = 48 + m := IntWalk.i64_in _ (by omega)
      have hwu : IntKind.u8.wrap (48 + (m : Int)) = 48 + m := IntWalk.u8_in _ (by omega)
      have HN := Lib.hid hnew
      have HQ := Lib.hid hq
      clear hnew hx hn hp hz hq hm
      go_wp2_with fail
      go_roundg q
      case measure => have := HG.out; have := HQ.out; omega
      case rel => exact ⟨q, x :: l, rfl, by first | rfl | (rw [hd, hwq]) | (go_num), rfl, hl2, by have := HQ.out; omega, HN.out.1, HN.out.2, hb.alloc hb.size _⟩
    · have hjz : j = 0 := by omega
      subst hjz
      have hle := hz rfl
      subst hle
      clear hp hz
      have hadd : ∀ w, (Op.stringOp .add ⟨#[109]⟩ (strOf (Lib.decDigits k))).run Tryd.prog w = .ok (.string (strOf (markL k))) w := fun w => add_strs Tryd.prog [109] (Lib.decDigits k) (by simp; omega) w
      go_wp2_with fail
      go_ret
      exact ⟨rfl, hb⟩

def marks (n : Nat) : List ByteArray := (List.range n).map fun i => strOf (markL (i + 1))
theorem marks_len (n : Nat) : (marks n).length = n := by simp [marks]
theorem marks_next (n : Nat) : marks (n + 1) = marks n ++ [strOf (markL (n + 1))] := by simp [marks, List.range_succ]
theorem marks_at (n k : Nat) (h : k < n) : (strCellsOf (marks n))[k]? = some (.string (strOf (markL (k + 1)))) := by
  simp [strCellsOf, marks, h]
theorem set_mark (ss : List ByteArray) (k : Nat) (h : k < ss.length) :
    (strCellsOf (marks k ++ ss.drop k)).set k (.string (strOf (markL (k + 1)))) = strCellsOf (marks (k + 1) ++ ss.drop (k + 1)) := by
  have hl : (strCellsOf (marks k)).length = k := by simp [strCellsOf, marks]
  rw [marks_next, List.drop_eq_getElem_cons h]
  simp only [strCellsOf, List.map_append, List.map_cons, List.append_assoc] at hl ⊢
  rw [List.set_append_right _ _ (by omega), hl, Nat.sub_self, List.set_cons_zero]
  rfl

theorem grown_trans {a b c : World} {r : Option Nat} (h : a.grownBy b r) (k : b.grownBy c r) : a.grownBy c r :=
  ⟨k.os.trans h.os, k.tape.trans h.tape, k.output.trans h.output, Nat.le_trans h.size k.size, fun i hi hne => (k.block i (Nat.lt_of_lt_of_le hi h.size) hne).trans (h.block i hi hne)⟩
theorem below_grown {a b : World} (h : Below a.heap.size a b) (r : Option Nat) : a.grownBy b r := ⟨h.os, h.tape, h.output, h.size, fun k hk _ => h.block k hk⟩

def MarkPost (base g n c : Nat) (ss : List ByteArray) (w : World) (e : Ending) (w' : World) : Prop :=
  e = .returned (.int .i64 (1 + (ss.length : Int))) ∧ w'.ownsRow base 9 1 (.slice (some ⟨g, 0, none⟩) n c) ss.length (strCellsOf (marks ss.length)) ∧ w.grownBy w' (some g)

set_option maxHeartbeats 1000000 in
theorem mark_any (base g c : Nat) (ss : List ByteArray) (w : World) (hn : ss.length ≤ 1000000) (ho : w.ownsRow base 9 1 (.slice (some ⟨g, 0, none⟩) ss.length c) ss.length (strCellsOf ss)) :
    Calls Tryd.prog 20 #[.slice (some ⟨g, 0, none⟩) ss.length c, .int .i64 1] w (MarkPost base g ss.length c ss w) := by
  go_enter Tryd.func20, Tryd.ntmps20
  go_wp2
  go_loopg [1, 5] ss.length (fun gh m i wr => ∃ k : Nat, gh = ss.length - k ∧ k ≤ ss.length ∧ i = .int .i64 k ∧ m = .int .i64 (1 + (k : Int)) ∧ wr.ownsRow base 9 1 (.slice (some ⟨g, 0, none⟩) ss.length c) ss.length (strCellsOf (marks k ++ ss.drop k)) ∧ w.grownBy wr (some g))
  case atStart => exact ⟨0, rfl, Nat.zero_le _, rfl, rfl, by simpa [marks] using ho, World.grownBy.refl _ _⟩
  case round =>
    clear ho
    obtain ⟨k, hg, hk, rfl, rfl, ho, hb⟩ := hrel
    have HG := Lib.hid hg
    clear hg
    by_cases hlt : k < ss.length
    · have hM := mark_text (1 + (k : Int)) wr (by omega) (by omega)
      rw [show (1 + (k : Int)).toNat = k + 1 by omega] at hM
      have hset := set_mark ss k hlt
      obtain ⟨x, hx⟩ : ∃ x, x = strOf (markL (k + 1)) := ⟨_, rfl⟩
      rw [← hx] at hM hset
      have hlt' : (k : Int) < (ss.length : Int) := by omega
      have hw1 := IntWalk.i64_in (1 + (k : Int) + 1) (by omega)
      clear hx
      go_wp2_with (go_at_call 35; refine hM.mono ?_; rintro e w1 ⟨rfl, hb1⟩; refine Hid.out ?_)
      refine Lib.hid ?_
      have ho1 := own_below9 ho hb1
      have g1 := grown_trans hb (below_grown hb1 (some g))
      clear ho hb hM hb1
      have hlen := ho1.1
      have hcg : w1.cell? ⟨g, k, none⟩ = some ((strCellsOf (marks k ++ ss.drop k))[k]'(by omega)) := by
        rw [ho1.cellAt k (by omega)]
        exact List.getElem?_eq_getElem _
      have hfg := ho1.frozenAt k
      have hst := (ho1.stored k (.string x)).1
      have hsg := (ho1.stored k (.string x)).2
      rw [hset] at hst
      have G2 := grown_trans g1 hsg
      obtain ⟨y, hy⟩ : ∃ y, y = (strCellsOf (marks k ++ ss.drop k))[k]'(by omega) := ⟨_, rfl⟩
      rw [← hy] at hcg
      clear hlen hy ho1 g1 hset
      go_wp2_with fail
      go_roundg (ss.length - (k + 1))
      case measure => have := HG.out; omega
      case rel => exact ⟨k + 1, rfl, by omega, by go_num, by go_num, hst, G2⟩
    · have hke : k = ss.length := by omega
      subst hke
      rw [List.drop_length, List.append_nil] at ho
      go_wp2_with fail
      go_ret
      exact ⟨rfl, ho, hb⟩

set_option maxRecDepth 100000 in
set_option maxHeartbeats 1000000 in
theorem held_any (base g c n : Nat) (w : World) (hn : n ≤ 1000000) (ho : w.ownsRow base 9 1 (.slice (some ⟨g, 0, none⟩) n c) n (strCellsOf (marks n))) :
    Calls Tryd.prog 21 #[.slice (some ⟨g, 0, none⟩) n c, .int .i64 1] w fun e w' => e = .returned (.int .i64 (1 + (n : Int))) ∧ Below w.heap.size w w' := by
  go_enter Tryd.func21, Tryd.ntmps21
  go_wp2
  go_loopg [1, 5] n (fun gh m i wr => ∃ k : Nat, gh = n - k ∧ k ≤ n ∧ i = .int .i64 k ∧ m = .int .i64 (1 + (k : Int)) ∧ Below w.heap.size w wr)
  case atStart => exact ⟨0, rfl, Nat.zero_le _, rfl, rfl, Below.refl _ _⟩
  case round =>
    obtain ⟨k, hg, hk, rfl, rfl, hb⟩ := hrel
    have HG := Lib.hid hg
    clear hg
    by_cases hlt : k < n
    · have hM := fun w => mark_text (1 + (k : Int)) w (by omega) (by omega)
      have hor := own_below9 ho hb
      have hgl := (hor.lt g rfl).2
      have hck : wr.cell? ⟨g, k, none⟩ = some (.string (strOf (markL (k + 1)))) := by rw [hor.cellAt k (by omega), marks_at n k hlt]
      rw [show (1 + (k : Int)).toNat = k + 1 by omega] at hM
      obtain ⟨x, hx⟩ : ∃ x, x = strOf (markL (k + 1)) := ⟨_, rfl⟩
      rw [← hx] at hM hck
      have hq : (!x.toList == x.toList) = false := by simp
      have hlt' : (k : Int) < (n : Int) := by omega
      have hw1 := IntWalk.i64_in (1 + (k : Int) + 1) (by omega)
      have HO := Lib.hid ho
      clear hx hor ho
      go_upto_region 4 with fail
      go_cut [18] (fun s wx => s = .bool false ∧ Below w.heap.size w wx)
      case first =>
        go_region_with (go_at_call 35; refine (hM _).mono ?_; rintro e w1 ⟨rfl, hb1⟩; have hcw : w1.cell? ⟨g, k, none⟩ = some (.string x) := (hb1.cell (p := ⟨g, k, none⟩) (by simpa using hgl)).trans hck)
        all_goals clear hM
        all_goals go_wp2_with fail
        all_goals go_meet
        all_goals exact ⟨rfl, hb.drew.trans (hb1.mono hb.size)⟩
      case rest =>
        obtain ⟨rfl, hb2⟩ := hcut
        go_wp2_with fail
        go_roundg (n - (k + 1))
        case measure => have := HG.out; omega
        case rel => exact ⟨k + 1, rfl, by omega, by go_num, by go_num, hb2⟩
    · have hke : k = n := by omega
      subst hke
      go_wp2_with fail
      go_ret
      exact ⟨rfl, hb⟩

end Go.Proofs.YtgnpeoddnahnpaaDoor
