/-
  impl.NumGet answers as the model does at every text of at most 2^36 bytes, where strconv's two errors and its table read as laid.
-/
import Derived.Test.YtehmaacbmkfedaaDoorL1
import Derived.Lib.AtoiErrMem
namespace Go.Proofs.YtehmaacbmkfedaaDoor
open Go.RowKit

structure Errs (w : World) : Prop where
  synt : ∃ tp p, w.var? Tryd.prog "strconv.ErrSyntax" = some #[.iface tp p]
  rang : ∃ tp p, w.var? Tryd.prog "strconv.ErrRange" = some #[.iface tp p]

theorem str_diff {l : List UInt8} {s : ByteArray} (h : l ≠ s.data.toList) : (!(strOf l).toList == s.toList) = true := by
  rw [ByteArray.toList_eq, ByteArray.toList_eq, strOf_toList]
  simpa using h
theorem str_same {l : List UInt8} {s : ByteArray} (h : l = s.data.toList) : (!(strOf l).toList == s.toList) = false := by
  rw [ByteArray.toList_eq, ByteArray.toList_eq, strOf_toList]
  simpa using h

set_option maxRecDepth 100000 in
set_option maxHeartbeats 1000000 in
theorem impl_numget (s : ByteArray) (w : World) (hs : s.size ≤ 4294967296) (hT : Lib.TabBelow Tryd.prog w.heap.size w "internal/strconv.uint64pow10" .u64 Lib.pow10Tab) (hE : Errs w) :
    Calls Tryd.prog 79 #[.string s] w fun e w' => e = .returned (.tuple #[.int .i64 (numG s.data.toList).1, .bool (numG s.data.toList).2]) ∧ Below w.heap.size w w' := by
  obtain ⟨tp, p, hv⟩ := hE.synt
  obtain ⟨tp2, p2, hv2⟩ := hE.rang
  by_cases hg : Good s.data.toList
  · have ha := atoi_good hg
    have hn := numG_yes hg
    have hb := num_of_good hg
    obtain ⟨v, hv0⟩ : ∃ v, v = (val s.data.toList : Int) := ⟨_, rfl⟩
    rw [← hv0] at ha hn hb
    have hA := (Tryd.strconv_Atoi_ok s (by omega) v ha w)
    have hA2 : Calls Tryd.prog 94 #[.string s] w fun e w' => e = .returned (.tuple #[.int .i64 v, .nilIface]) ∧ Below w.heap.size w w' := hA.mono fun e w' ⟨he, hw⟩ => ⟨he, by
      rcases hw with rfl | ⟨t, rfl⟩
      · exact Below.refl _ _
      · exact Lib.bytesWorld_below w 5 t⟩
    have hP := fun w1 (hb1 : Below w.heap.size w w1) => impl_num v w1 (hT.on hb1).here
    have hq := str_same hb
    obtain ⟨t, ht⟩ : ∃ t, t = numText v := ⟨_, rfl⟩
    rw [← ht] at hP hq
    have HN := Lib.hid hn
    clear ha hn hb hv0 hA hg hv hv2 hE hT ht
    go_enter Tryd.func79, Tryd.ntmps79
    go_wp2_with (first | (go_at_call 94; refine hA2.mono ?_; rintro e w1 ⟨rfl, hb1⟩) | (go_at_call 50; refine (hP _ hb1).mono ?_; rintro e w2 ⟨rfl, hb2⟩))
    go_ret2
    exact ⟨by rw [HN.out]; rfl, hb1.trans (hb2.mono hb1.size)⟩
  · have HN := Lib.hid (numG_no hg)
    cases ha : Lib.atoiAll s.data.toList with
    | ok v =>
      have hne : s.data.toList ≠ [] := by
        intro e
        rw [e] at ha
        cases ha
      have hb : numText v ≠ s.data.toList := fun e => hg (num_back hne e).1
      have hA := (Tryd.strconv_Atoi_ok s (by omega) v ha w)
      have hA2 : Calls Tryd.prog 94 #[.string s] w fun e w' => e = .returned (.tuple #[.int .i64 v, .nilIface]) ∧ Below w.heap.size w w' := hA.mono fun e w' ⟨he, hw⟩ => ⟨he, by
        rcases hw with rfl | ⟨t, rfl⟩
        · exact Below.refl _ _
        · exact Lib.bytesWorld_below w 5 t⟩
      have hP := fun w1 (hb1 : Below w.heap.size w w1) => impl_num v w1 (hT.on hb1).here
      have hq := str_diff hb
      obtain ⟨t, ht⟩ : ∃ t, t = numText v := ⟨_, rfl⟩
      rw [← ht] at hP hq
      clear ha hb hA hg hv hv2 hE hT ht hne
      go_enter Tryd.func79, Tryd.ntmps79
      go_wp2_with (first | (go_at_call 94; refine hA2.mono ?_; rintro e w1 ⟨rfl, hb1⟩) | (go_at_call 50; refine (hP _ hb1).mono ?_; rintro e w2 ⟨rfl, hb2⟩))
      go_ret2
      exact ⟨by rw [HN.out]; rfl, hb1.trans (hb2.mono hb1.size)⟩
    | range =>
      have hA := Tryd.strconv_Atoi_range_var s (by omega) ha tp2 p2 w hv2
      obtain ⟨z, hz⟩ : ∃ z, z = Lib.atoiSat s.data.toList := ⟨_, rfl⟩
      rw [← hz] at hA
      clear ha hg hv hv2 hE hT hz
      go_enter Tryd.func79, Tryd.ntmps79
      go_wp2_with (go_at_call 94; refine hA.mono ?_; rintro e w1 ⟨N, rfl, _, _, hb1⟩)
      go_ret2
      exact ⟨by rw [HN.out]; rfl, hb1⟩
    | _ =>
      have hA := Tryd.strconv_Atoi_bad s (by omega) (fun v e => by rw [ha] at e; cases e) (fun e => by rw [ha] at e; cases e) tp p w hv
      clear ha hg hv hv2 hE hT
      go_enter Tryd.func79, Tryd.ntmps79
      go_wp2_with (go_at_call 94; refine hA.mono ?_; rintro e w1 ⟨N, rfl, _, _, hb1⟩)
      go_ret2
      exact ⟨by rw [HN.out]; rfl, hb1⟩

end Go.Proofs.YtehmaacbmkfedaaDoor
