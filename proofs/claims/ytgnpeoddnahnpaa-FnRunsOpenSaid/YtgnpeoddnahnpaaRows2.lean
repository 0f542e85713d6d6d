/-
  Small facts on a row of bytes that a call makes for itself and appends to; appendRun appends so many equal bytes; openRun reads one run.
-/
import Derived.Test.YtgnpeoddnahnpaaRunLen
import Derived.Maps.AppendAt
import Derived.Laws.BytesArg
import Derived.Laws.OwnMore
import Derived.OwnWalk
import Derived.RegionTactic
namespace Go.Proofs.Ytgnpeoddnahnpaa
open Go.RowKit

def cellsOf (l : List UInt8) : List Value := l.map fun c => Value.int .u8 (c.toNat : Int)
theorem cellsOf_len (l : List UInt8) : (cellsOf l).length = l.length := by simp [cellsOf]
theorem cellsOf_app (l m : List UInt8) : cellsOf (l ++ m) = cellsOf l ++ cellsOf m := by simp [cellsOf]

def Moved (w w' : World) (v v' : Value) : Prop := w.grownBy w' v.ownBlock ∧ (v'.ownBlock = v.ownBlock ∨ ∃ k, v'.ownBlock = some k ∧ w.heap.size ≤ k)
theorem Moved.refl (w : World) (v : Value) : Moved w w v v := ⟨World.grownBy.refl _ _, .inl rfl⟩
theorem Moved.trans {a b c : World} {u v x : Value} (h : Moved a b u v) (k : Moved b c v x) : Moved a c u x := by
  obtain ⟨h1, h2⟩ := h
  obtain ⟨k1, k2⟩ := k
  refine ⟨⟨k1.os.trans h1.os, k1.tape.trans h1.tape, k1.output.trans h1.output, Nat.le_trans h1.size k1.size, fun i hi hne => ?_⟩, ?_⟩
  · refine (k1.block i (Nat.lt_of_lt_of_le hi h1.size) ?_).trans (h1.block i hi hne)
    rcases h2 with h2 | ⟨j, h2, hj⟩
    · rw [h2]; exact hne
    · rw [h2]; intro e; cases e; omega
  · rcases k2 with k2 | ⟨j, k2, hj⟩
    · rw [k2]; exact h2
    · exact .inr ⟨j, k2, Nat.le_trans h1.size hj⟩
theorem Moved.alloc {a b : World} {u v : Value} (h : Moved a b u v) (o : Obj) : Moved a (b.alloc o) u v :=
  h.trans ⟨World.grownBy_alloc _ _ _, .inl rfl⟩
theorem Moved.drewN {a b : World} {u v : Value} (h : Moved a b u v) (n : Nat) : Moved a (b.drewN n) u v :=
  h.trans ⟨⟨rfl, rfl, rfl, Nat.le_refl _, fun _ _ _ => rfl⟩, .inl rfl⟩
theorem Moved.app {w w' : World} {v v' : Value} {n : Nat} (hg : w.grownBy w' v.ownBlock) (hat : v'.ownBlock = v.ownBlock ∨ v'.ownBlock = some n) (hn : w.heap.size ≤ n) : Moved w w' v v' :=
  ⟨hg, hat.imp id fun h => ⟨_, h, hn⟩⟩
theorem Moved.below {a b : World} {u v : Value} {B : Nat} (h : Moved a b u v) (hB : B ≤ a.heap.size) (hu : ∀ k, u.ownBlock = some k → B ≤ k) : Below B a b :=
  (Below.refl B a).grown h.1 hB hu

theorem Try.info5 : (Try.prog.info? 5).map (fun i => (i.zero, i.size, i.bytes)) = some (some (.int .u8 0), 1, 1) := by kernel_rfl

theorem own_snoc {w : World} {base n : Nat} {v : Value} {l m : List UInt8} {news : List Value} (h : w.ownsRow base 5 1 v n (cellsOf l ++ news)) (hn : news = cellsOf m) (hk : n = l.length + m.length) :
    w.ownsRow base 5 1 v (l ++ m).length (cellsOf (l ++ m)) := by
  rw [cellsOf_app, List.length_append, ← hk, ← hn]
  exact h

theorem rep_snoc (l : List UInt8) (k : Nat) (c : UInt8) : (l ++ List.replicate k c) ++ [c] = l ++ List.replicate (k + 1) c := by
  rw [List.append_assoc, List.replicate_succ']

set_option maxHeartbeats 400000 in
theorem append_run (base : Nat) (v : Value) (l : List UInt8) (c : UInt8) (m : Nat) (w : World) (hm : m ≤ 9) (hl : l.length ≤ 1099511627776) (hown : w.ownsRow base 5 1 v l.length (cellsOf l)) (hb : base ≤ w.heap.size) :
    Calls Try.prog 19 #[v, .int .u8 (c.toNat : Int), .int .i64 m] w fun e w' => ∃ v', e = .returned v' ∧ w'.ownsRow base 5 1 v' (l ++ List.replicate m c).length (cellsOf (l ++ List.replicate m c)) ∧ Moved w w' v v' := by
  obtain ⟨i0, hi, hz0, hz1, hz2⟩ := info_parts Try.info5
  go_enter Try.func19, Try.ntmps19
  go_wp2
  go_loopw [0, 8] (fun tv i wr => ∃ k : Nat, k ≤ m ∧ i = .int .i64 k ∧ wr.ownsRow base 5 1 tv (l ++ List.replicate k c).length (cellsOf (l ++ List.replicate k c)) ∧ Moved w wr v tv) (fun _ i _ => m - (intOf i).toNat)
  case atStart => exact ⟨0, Nat.zero_le _, rfl, by simpa using hown, Moved.refl _ _⟩
  case round =>
    obtain ⟨k, hk, rfl, ho, hmv⟩ := hrel
    have hsz := hmv.1.size
    have hln : (l ++ List.replicate k c).length = l.length + k := by simp
    have HL := Lib.hid hln
    clear hln
    by_cases hlt : k < m
    · go_wp2_with (at_builtin; refine wpList_append_own_at _ rfl _ _ 27 rfl base 5 i0 (.int .u8 0) 1 1 Try.underlying27 hi hz0 hz1 hz2 rfl (by decide) _ _ _ rfl (ho.alloc _) ⟨wr.heap.size, 0, none⟩ 1 1 [.int .u8 (c.toNat : Int)] rfl rfl (cell_one_new _ _ _) (by simp [Value.oneCell']) (by rw [HL.out]; unfold maxLen; omega) (by rw [HL.out]; omega) (by simp; omega) ?_)
      intro v' w1 hown' hgrow _ hat
      have R : w1.ownsRow base 5 1 v' (l ++ List.replicate (k + 1) c).length (cellsOf (l ++ List.replicate (k + 1) c)) := by
        rw [← rep_snoc]
        exact own_snoc hown' rfl (by simp)
      have M : Moved w w1 v v' := (hmv.alloc _).trans (Moved.app hgrow hat (by simp))
      clear hown' hgrow hat ho hmv
      go_wp2
      go_roundw
      case rel => exact ⟨k + 1, by omega, by go_num, R, M⟩
      case measure => simp [intOf]; omega
    · obtain rfl : k = m := by omega
      go_wp2
      go_ret
      exact ⟨_, rfl, ho, hmv⟩


def openR (l : List UInt8) : Int × Int × Int :=
  match l with
  | [] => (0, 0, 0)
  | c :: r => if c = 126 then (match r with
      | a :: b :: _ => if 49 ≤ a.toNat ∧ a.toNat ≤ 57 then ((b.toNat : Int), (a.toNat : Int) - 48, 3) else (0, 0, 0)
      | _ => (0, 0, 0)) else ((c.toNat : Int), 1, 1)

theorem openR_lit (s : ByteArray) (h0 : 0 < s.size) (h : s[0] ≠ 126) : openR s.data.toList = ((s[0].toNat : Int), 1, 1) := by
  have e := drop_at s 0 h0
  rw [List.drop_zero] at e
  rw [e]
  simp [openR, h]
theorem openR_short (s : ByteArray) (h0 : 0 < s.size) (h : s[0] = 126) (hs : s.size < 3) : openR s.data.toList = (0, 0, 0) := by
  have e := drop_at s 0 h0
  have hl : s.data.toList.length = s.size := by simp
  rw [List.drop_zero] at e
  rw [e] at hl ⊢
  simp only [openR, h, if_true]
  match hr : s.data.toList.drop (0 + 1) with
  | [] => rfl
  | [_] => rfl
  | _ :: _ :: _ => rw [hr] at hl; simp at hl; omega
theorem openR_long (s : ByteArray) (h0 : 2 < s.size) (h : s[0] = 126) : openR s.data.toList = if 49 ≤ s[1].toNat ∧ s[1].toNat ≤ 57 then ((s[2].toNat : Int), (s[1].toNat : Int) - 48, 3) else (0, 0, 0) := by
  have e := drop_at s 0 (by omega)
  rw [List.drop_zero, drop_at s (0 + 1) (by omega), drop_at s (0 + 1 + 1) (by omega)] at e
  rw [e]
  simp only [openR, h, if_true]

set_option maxHeartbeats 400000 in
theorem open_run (s : ByteArray) (w : World) (hs : s.size ≤ maxLen) (h0 : 0 < s.size) :
    Calls Try.prog 20 #[.string s] w fun e w' => e = .returned (.tuple #[.int .u8 (openR s.data.toList).1, .int .i64 (openR s.data.toList).2.1, .int .i64 (openR s.data.toList).2.2]) ∧ ∃ q, w' = w.drewN q := by
  unfold maxLen at hs
  by_cases h1 : s[0] = 126
  · have hq : ((s[0].toNat : Int) != 126) = false := by rw [h1]; rfl
    by_cases h2 : s.size < 3
    · have H := Lib.hid (openR_short s h0 h1 h2)
      have h2' : (s.size : Int) < 3 := by omega
      clear h1
      go_enter Try.func20, Try.ntmps20
      go_wp2
      go_ret3
      exact ⟨by rw [H.out]; rfl, 0, rfl⟩
    · have hE := openR_long s (by omega) h1
      have h2' : ¬ (s.size : Int) < 3 := by omega
      obtain ⟨hc0, hc1⟩ := u8_bd s[1]
      by_cases h3 : s[1].toNat < 49
      · rw [if_neg (by omega)] at hE
        have H := Lib.hid hE
        have h3' : (s[1].toNat : Int) < 49 := by omega
        clear h1 hE
        go_enter Try.func20, Try.ntmps20
        go_wp2
        go_ret3
        exact ⟨by rw [H.out]; rfl, 0, rfl⟩
      · have h3' : ¬ (s[1].toNat : Int) < 49 := by omega
        by_cases h4 : 57 < s[1].toNat
        · rw [if_neg (by omega)] at hE
          have H := Lib.hid hE
          have h4' : (57 : Int) < (s[1].toNat : Int) := by omega
          clear h1 hE
          go_enter Try.func20, Try.ntmps20
          go_wp2
          go_ret3
          exact ⟨by rw [H.out]; rfl, 0, rfl⟩
        · rw [if_pos (by omega)] at hE
          have H := Lib.hid hE
          have h4' : ¬ (57 : Int) < (s[1].toNat : Int) := by omega
          have h5 : (2 : Int) < (s.size : Int) := by omega
          have h6 : (1 : Int) < (s.size : Int) := by omega
          clear h1 hE
          go_enter Try.func20, Try.ntmps20
          go_wp2
          go_quiet (fail)
          go_wp2
          go_ret3
          exact ⟨by rw [H.out]; rfl, _, rfl⟩
  · have H := Lib.hid (openR_lit s h0 h1)
    have hq : ((s[0].toNat : Int) != 126) = true := by
      simp only [bne_iff_ne, ne_eq]
      intro h
      exact h1 (UInt8.toNat_inj.1 (by have : s[0].toNat = 126 := by omega
                                      rw [this]; rfl))
    clear h1
    go_enter Try.func20, Try.ntmps20
    go_wp2
    go_ret3
    exact ⟨by rw [H.out]; rfl, 0, rfl⟩

end Go.Proofs.Ytgnpeoddnahnpaa
