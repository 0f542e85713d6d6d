/-
  impl.RunsOpen answers as spec.RunsOpen does at every text of at most 10^9 bytes.
-/
import Derived.Test.YtgnpeoddnahnpaaOpens
namespace Go.Proofs.Ytgnpeoddnahnpaa
open Go.RowKit

theorem openR_none {l : List UInt8} (h : 0 < l.length) (hz : (openR l).2.2 = 0) : openL l = none := by
  match l, h with
  | c :: r, _ =>
    by_cases hc : c = 126
    · subst hc
      match r with
      | [] => exact openL_short _ (by simp)
      | [_] => exact openL_short _ (by simp)
      | a :: b :: t =>
        by_cases h3 : 49 ≤ a.toNat ∧ a.toNat ≤ 57
        · simp [openR, h3] at hz
        · exact openL_bad _ _ _ h3
    · simp [openR, hc] at hz

theorem openR_some {l : List UInt8} (h : 0 < l.length) (hz : (openR l).2.2 ≠ 0) :
    ∃ (c : UInt8) (m u : Nat), openR l = ((c.toNat : Int), (m : Int), (u : Int)) ∧ 1 ≤ m ∧ m ≤ 9 ∧ 1 ≤ u ∧ u ≤ l.length ∧ m ≤ 3 * u ∧ openL l = (openL (l.drop u)).map (List.replicate m c ++ ·) := by
  match l, h with
  | c :: r, _ =>
    by_cases hc : c = 126
    · subst hc
      match r with
      | [] => simp [openR] at hz
      | [_] => simp [openR] at hz
      | a :: b :: t =>
        by_cases h3 : 49 ≤ a.toNat ∧ a.toNat ≤ 57
        · refine ⟨b, a.toNat - 48, 3, ?_, by omega, by omega, by omega, by simp, by omega, openL_run _ _ _ h3⟩
          simp [openR, h3]
          omega
        · simp [openR, h3] at hz
    · refine ⟨c, 1, 1, ?_, by omega, by omega, by omega, by simp, by omega, openL_lit _ _ hc⟩
      simp [openR, hc]

theorem str_full {r : ByteArray} (h : 0 < r.size) : (!r.toList.isEmpty) = true := by
  rw [ByteArray.toList_eq]
  have : r.data.toList ≠ [] := by
    intro e
    have h2 : r.data.toList.length = 0 := by rw [e]; rfl
    simp at h2
    have : r.size = 0 := by simp [ByteArray.size, h2]
    omega
  simpa using this
theorem str_bare {r : ByteArray} (h : ¬ 0 < r.size) : (!r.toList.isEmpty) = false ∧ r.data.toList = [] := by
  rw [ByteArray.toList_eq]
  have : r.data.toList = [] := List.eq_nil_of_length_eq_zero (by have e : r.data.toList.length = r.size := by simp
                                                                 omega)
  exact ⟨by rw [this]; rfl, this⟩

set_option maxHeartbeats 1000000 in
theorem impl_open (s : ByteArray) (w : World) (hs : s.size ≤ 1000000000) :
    Calls Try.prog 14 #[.string s] w fun e w' => e = .returned (.tuple #[.string (strOf (openA s.data.toList).1), .bool (openA s.data.toList).2]) ∧ Below w.heap.size w w' := by
  go_enter Try.func14, Try.ntmps14
  go_wp2
  go_loopg [4, 5] s.size (fun g v i wr => ∃ (r : ByteArray) (o : List UInt8), g = r.size ∧ r.size ≤ s.size ∧ i = .string r ∧ wr.ownsRow w.heap.size 5 1 v o.length (cellsOf o) ∧ Below w.heap.size w wr ∧ (openL r.data.toList).map (o ++ ·) = openL s.data.toList ∧ o.length + 3 * r.size ≤ 3 * s.size)
  case atStart => exact ⟨s, [], rfl, Nat.le_refl _, rfl, World.ownsRow_made _ #[] 0 (Nat.le_refl _) (by decide) rfl, (Below.refl _ _).alloc (Nat.le_refl _) _, by simp, by simp⟩
  case round =>
    obtain ⟨r, o, hg, hk, rfl, ho, hb, hp, hol⟩ := hrel
    have hsz := hb.size
    by_cases hlt : 0 < r.size
    · have hE1 : (!r.toList.isEmpty) = true := str_full hlt
      have hO := fun w => open_run r w (by unfold maxLen; omega) hlt
      by_cases hz : (openR r.data.toList).2.2 = 0
      · have hE : openA s.data.toList = ([], false) := by
          apply openA_none
          rw [← hp, openR_none (by simpa using hlt) hz]
          rfl
        have HE := Lib.hid hE
        rw [hz] at hO
        have HG := Lib.hid hg
        clear hp hE hz hg
        go_wp2_with (go_at_call 20; refine (hO _).mono ?_; rintro e w1 ⟨rfl, q, rfl⟩)
        go_ret2
        exact ⟨by rw [HE.out]; rfl, below_drewN hb q⟩
      · obtain ⟨c, m, u, hR, hm1, hm9, hu1, hul, hmu, hop⟩ := openR_some (by simpa using hlt) hz
        rw [hR] at hO
        rw [hop, map_more, ← ext_list] at hp
        have hul' : u ≤ r.size := by simpa using hul
        have hul2 : (u : Int) ≤ (r.size : Int) := by omega
        have hu0 : ((u : Int) == 0) = false := by simp; omega
        have hes := ext_size r u
        obtain ⟨r2, hr2⟩ : ∃ r2, r.extract u r.size = r2 := ⟨_, rfl⟩
        rw [hr2] at hp hes
        have HP := Lib.hid hp
        have HG := Lib.hid hg
        have HS := Lib.hid hes
        clear hp hg hz hop hR hul hes
        go_wp2_with (first | (go_at_call 20; refine (hO _).mono ?_; rintro e w1 ⟨rfl, q, rfl⟩) | (go_at_call 19; refine (append_run w.heap.size _ o c m _ hm9 (by omega) (show World.ownsRow (wr.drewN _) _ _ _ _ _ _ from ho) hsz).mono ?_; rintro e w2 ⟨v', rfl, hR, hM⟩))
        have hS' := HS.out
        have hG' := HG.out
        have B2 : Below w.heap.size w w2 := (below_drewN hb q).trans (hM.below hsz (fun k e => (ho.lt k e).1))
        go_roundg r2.size
        case measure => omega
        case rel => exact ⟨r2, _, rfl, by omega, rfl, hR, B2, HP.out, by simp; omega⟩
    · obtain ⟨hE1, hE2⟩ := str_bare hlt
      have hE : openL s.data.toList = some o := by rw [← hp, hE2, openL_nil]; simp
      have hcv := conv_own ho
      have hS := fun w => impl_pack (strOf o) w (by rw [strOf_size]; omega)
      rw [strOf_toList] at hS
      have HG := Lib.hid hg
      by_cases hy : pack o = s.data.toList
      · have HE := Lib.hid (openA_yes hE hy)
        have hy' := str_same hy
        clear hE2 hp hE hy hg
        go_wp2_with (go_at_call 12; refine (hS _).mono ?_; rintro e w1 ⟨rfl, hb1⟩)
        go_ret2
        exact ⟨by rw [HE.out]; rfl, hb.trans (hb1.mono hsz)⟩
      · have HE := Lib.hid (openA_no hE hy)
        have hy' := str_diff hy
        clear hE2 hp hE hy hg
        go_wp2_with (go_at_call 12; refine (hS _).mono ?_; rintro e w1 ⟨rfl, hb1⟩)
        go_ret2
        exact ⟨by rw [HE.out]; rfl, hb.trans (hb1.mono hsz)⟩

end Go.Proofs.Ytgnpeoddnahnpaa
