/-
  spec.FieldsPut answers the text of a record.
-/
import Derived.Test.YtehmaacbmkfedaaDoorRows9
import Derived.Test.YtehmaacbmkfedaaDoorL1
namespace Go.Proofs.YtehmaacbmkfedaaDoor
open Go.RowKit

def encF (s : ByteArray) : List UInt8 := Lib.decDigits s.size ++ [58] ++ s.data.toList
def recL (ss : List ByteArray) : List UInt8 := ss.flatMap encF
def fput (ss : List ByteArray) : List UInt8 × Bool := if ss.length ≤ 60 ∧ (recL ss).length ≤ 2048 then (recL ss, true) else ([], false)
theorem fput_yes {ss : List ByteArray} (h : ss.length ≤ 60) (h2 : (recL ss).length ≤ 2048) : fput ss = (recL ss, true) := if_pos ⟨h, h2⟩
theorem fput_many {ss : List ByteArray} (h : ¬ ss.length ≤ 60) : fput ss = ([], false) := if_neg fun e => h e.1
theorem fput_long {ss : List ByteArray} (h : 2048 < (recL ss).length) : fput ss = ([], false) := if_neg fun e => by omega
theorem recL_take (ss : List ByteArray) (k : Nat) (h : k < ss.length) : recL (ss.take (k + 1)) = recL (ss.take k) ++ encF ss[k] := by
  unfold recL
  rw [List.take_succ_eq_append_getElem h, List.flatMap_append]
  simp
theorem recL_part (ss : List ByteArray) (k : Nat) : (recL (ss.take k)).length ≤ (recL ss).length := by
  have h : recL ss = recL (ss.take k) ++ recL (ss.drop k) := by
    unfold recL
    rw [← List.flatMap_append, List.take_append_drop]
  rw [h, List.length_append]
  omega
theorem encF_len (s : ByteArray) : (encF s).length = (Lib.decDigits s.size).length + 1 + s.size := by simp [encF]; omega

theorem dec_len9 (u : Nat) (h : u ≤ 999999999) : (Lib.decDigits u).length ≤ 9 := (dec_good u h).2.1

def FPost (r : List UInt8 × Bool) (w : World) (e : Ending) (w' : World) : Prop := e = .returned (.tuple #[.string (strOf r.1), .bool r.2]) ∧ Below w.heap.size w w'

set_option maxRecDepth 100000 in
set_option maxHeartbeats 1000000 in
theorem spec_fput (A : Option Addr) (cap : Nat) (ss : List ByteArray) (w : World) (hn : ss.length ≤ 1048576) (hs : ∀ s ∈ ss, s.size ≤ 1048576) (hA : StrsAt w A ss) :
    Calls Tryd.prog 21 #[.slice A ss.length cap] w (FPost (fput ss) w) := by
  by_cases h60 : ss.length ≤ 60
  · have h60' : (ss.length : Int) ≤ 60 := by omega
    go_enter Tryd.func21, Tryd.ntmps21
    go_wp2
    go_loopg [4, 5] ss.length (fun g o i wr => ∃ k : Nat, g = ss.length - k ∧ k ≤ ss.length ∧ i = .int .i64 k ∧ o = .string (strOf (recL (ss.take k))) ∧ (recL (ss.take k)).length ≤ 2048 ∧ Below w.heap.size w wr)
    case atStart => exact ⟨0, rfl, Nat.zero_le _, rfl, rfl, by simp [recL], Below.refl _ _⟩
    case round =>
      obtain ⟨k, hg, hk, rfl, rfl, hl, hb⟩ := hrel
      have HG := Lib.hid hg
      clear hg
      by_cases hlt : k < ss.length
      · obtain ⟨b, off, rfl, hlb, hc⟩ := hA (by omega)
        have hck := (hb.cell (p := ⟨b, off + k, none⟩) hlb).trans (hc k hlt)
        have hsk := hs ss[k] (by simp)
        have hrt := recL_take ss k hlt
        have hpt := recL_part ss (k + 1)
        have hel := encF_len ss[k]
        obtain ⟨x, hx⟩ : ∃ x, x = ss[k] := ⟨_, rfl⟩
        rw [← hx] at hck hsk hrt hel
        have hlt' : (k : Int) < (ss.length : Int) := by omega
        have hlb2 : b < wr.heap.size := Nat.lt_of_lt_of_le hlb hb.size
        rw [hrt, List.length_append] at hpt
        by_cases hbig : 2048 < x.size
        · have hbig' : (2048 : Int) < (x.size : Int) := by omega
          have HF := Lib.hid (fput_long (ss := ss) (by omega))
          clear hc hrt hel hpt hx
          go_wp2_with fail
          go_ret2
          exact ⟨by rw [HF.out]; rfl, hb⟩
        · have hbig' : ¬ (2048 : Int) < (x.size : Int) := by omega
          have hD := fun w => dec_any x.size (x.size : Int) w (by omega) (by omega) (by omega)
          rw [Int.toNat_natCast] at hD
          have hdl := dec_len9 x.size (by omega)
          obtain ⟨d, hd⟩ : ∃ d, d = Lib.decDigits x.size := ⟨_, rfl⟩
          have hen : encF x = d ++ [58] ++ x.data.toList := by rw [hd]; rfl
          rw [← hd] at hD hdl hel
          obtain ⟨o, ho⟩ : ∃ o, o = recL (ss.take k) := ⟨_, rfl⟩
          rw [← ho] at hl hrt hpt ⊢
          obtain ⟨o1, ho1⟩ : ∃ o1, o1 = o ++ d := ⟨_, rfl⟩
          obtain ⟨o2, ho2⟩ : ∃ o2, o2 = o1 ++ [58] := ⟨_, rfl⟩
          obtain ⟨o3, ho3⟩ : ∃ o3, o3 = o2 ++ x.data.toList := ⟨_, rfl⟩
          have hl1 : o1.length ≤ 3000 := by rw [ho1, List.length_append]; omega
          have hl2 : o2.length ≤ 3001 := by rw [ho2, List.length_append, List.length_singleton]; omega
          have hadd1 := add_strs Tryd.prog o d (by omega)
          rw [← ho1] at hadd1
          have hadd2 : ∀ w, (Op.stringOp .add (strOf o1) ⟨#[58]⟩).run Tryd.prog w = .ok (.string (strOf o2)) w := by
            intro w
            rw [ho2]
            exact add_strs Tryd.prog o1 [58] (by simp; omega) w
          have hadd3 : ∀ w, (Op.stringOp .add (strOf o2) x).run Tryd.prog w = .ok (.string (strOf o3)) w := by
            intro w
            rw [ho3]
            exact add_strs Tryd.prog o2 x.data.toList (by simp; omega) w
          have hfin : o ++ encF x = o3 := by rw [ho3, ho2, ho1, hen]; simp
          rw [hfin] at hrt
          have hfl : (recL (ss.take (k + 1))).length ≤ (recL ss).length := recL_part ss (k + 1)
          rw [hrt] at hfl
          have hk1 : (k : Int) + 1 ≤ 61 := by omega
          have HR := Lib.hid hrt
          have HP := Lib.hid hpt
          have HL := Lib.hid hel
          have HFL := Lib.hid hfl
          clear hrt hpt hel hd hx hc hen ho ho1 ho2 ho3 hfin hfl
          go_upto_region 7 with fail
          go_cut [4] (fun s4 wx => s4 = .string (strOf o3) ∧ Below w.heap.size w wx)
          case first =>
            go_region_with (go_at_call 22; refine (hD _).mono ?_; rintro e w1 ⟨rfl, hb1⟩; have hcw : w1.cell? ⟨b, off + k, none⟩ = some (.string x) := (hb1.cell (p := ⟨b, off + k, none⟩) hlb2).trans hck)
            all_goals clear hadd1 hadd2 hadd3
            all_goals go_wp2_with fail
            all_goals go_meet
            all_goals exact ⟨rfl, hb.drew.trans (hb1.mono hb.size)⟩
          case rest =>
            obtain ⟨rfl, hb2⟩ := hcut
            have hsz := strOf_size o3
            clear hadd1 hadd2 hadd3 hD
            by_cases hfit : 2048 < o3.length
            · have hz : (2048 : Int) < ((strOf o3).size : Int) := by omega
              have HF := Lib.hid (fput_long (ss := ss) (by have := HFL.out; omega))
              clear hsz
              go_wp2_with fail
              go_ret2
              exact ⟨by rw [HF.out]; rfl, hb2⟩
            · have hz : ¬ (2048 : Int) < ((strOf o3).size : Int) := by omega
              clear hsz
              go_wp2_with fail
              go_roundg (ss.length - (k + 1))
              case measure => have := HG.out; omega
              case rel => exact ⟨k + 1, rfl, by omega, by go_num, by rw [HR.out], by rw [HR.out]; omega, hb2⟩
      · have hke : k = ss.length := by omega
        subst hke
        rw [List.take_length] at hl ⊢
        have HF := Lib.hid (fput_yes h60 hl)
        go_wp2_with fail
        go_ret2
        exact ⟨by rw [HF.out]; rfl, hb⟩
  · have HF := Lib.hid (fput_many h60)
    have h60' : decide ((ss.length : Int) ≤ 60) = false := by simp; omega
    have h0 : (0 : Int) < (ss.length : Int) := by omega
    go_enter Tryd.func21, Tryd.ntmps21
    go_wp2
    refine wp_loop_rounds 1 ?_
    rw [rounds_succ]
    go_wp2
    go_ret2
    exact ⟨by rw [HF.out]; rfl, Below.refl _ _⟩

end Go.Proofs.YtehmaacbmkfedaaDoor
