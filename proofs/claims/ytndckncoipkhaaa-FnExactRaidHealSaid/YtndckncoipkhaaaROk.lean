/-
  Whether a set of disks is valid.
-/
import Derived.Test.YtndckncoipkhaaaKR
import Derived.Test.YtndckncoipkhaaaKW
namespace Go.Proofs.Ytndckncoipkhaaa
open Go.RowKit

def RsOk (R : List Dk) : Prop := R.length = 3 ∧ ∀ d ∈ R, DkOk d
instance (R : List Dk) : Decidable (RsOk R) := by unfold RsOk; infer_instance
def okR (R : List Dk) : Bool := decide (RsOk R)
theorem okR_yes {R : List Dk} (h : RsOk R) : okR R = true := by simp [okR, h]
theorem okR_no {R : List Dk} (h : ¬ RsOk R) : okR R = false := by simp [okR, h]
def allTo (ps : List RD) (k : Nat) : Prop := ∀ j (h : j < ps.length), j < k → DkOk ps[j].d
theorem allTo_all {ps : List RD} (h : allTo ps ps.length) : ∀ d ∈ dks ps, DkOk d := fun d hd => by
  obtain ⟨p, hp, rfl⟩ := List.mem_map.1 hd
  obtain ⟨j, hj, rfl⟩ := List.getElem_of_mem hp
  exact h j hj hj
theorem not_all {ps : List RD} {k : Nat} (hk : k < ps.length) (h : ¬ DkOk ps[k].d) : ¬ ∀ d ∈ dks ps, DkOk d := fun ha => h (ha _ (List.mem_map.2 ⟨ps[k], List.getElem_mem hk, rfl⟩))

set_option maxRecDepth 100000 in
set_option maxHeartbeats 2000000 in
theorem spec_rok (A : Option Addr) (cap : Nat) (ps : List RD) (w : World) (hn : ps.length ≤ 1048576) (hf : ∀ p ∈ ps, Bulk p.d) (hA : RAt w A ps) :
    Calls Try.prog 17 #[.agg #[.slice A ps.length cap]] w fun r w' => r = .returned (.bool (okR (dks ps))) ∧ Below w.heap.size w w' := by
  have bl : Below w.heap.size w (w.alloc (.cells #[.slice A ps.length cap] 24)) := bel_new (Below.refl _ _) _
  have b0 := B1.new w 24 (.slice A ps.length cap)
  go_enter Try.func17, Try.ntmps17
  go_wp2
  go_loopw [3] (fun i wr => ∃ k : Nat, k ≤ ps.length ∧ i = .int .i64 k ∧ allTo ps k ∧ B1 wr w.heap.size 24 (.slice A ps.length cap) ∧ Below w.heap.size w wr) (fun i _ => ps.length - (intOf i).toNat)
  case atStart => exact ⟨0, Nat.zero_le _, rfl, fun j hj h => by omega, b0, bl⟩
  case round =>
    obtain ⟨k, hk, rfl, hall, b1, hb⟩ := hrel
    clear b0 bl
    obtain ⟨x0, _⟩ := b1.cells
    have HA := Lib.hid hall
    clear hall
    by_cases hlt : k < ps.length
    · obtain ⟨b, off, rfl, hlb, z0, z1, z2, hd⟩ := (hA.below hb).cell k hlt
      have hfp := hf ps[k] (List.getElem_mem hlt)
      obtain ⟨P, hP⟩ : ∃ P, P = ps[k] := ⟨_, rfl⟩
      rw [← hP] at z0 z1 z2 hd hfp
      have hS := spec_ok P.a P.b P.c P.e P.d wr hfp hd
      have HP := Lib.hid hP
      have HK := Lib.hid hlt
      by_cases hok : DkOk P.d
      · have hS2 := okPost_yes hok hS
        have HOK := Lib.hid hok
        clear hS hok hfp hd hP
        go_wp2_with (go_at_call 44; refine hS2.mono ?_; rintro r w2 ⟨rfl, hb2⟩)
        go_roundw
        case rel => exact ⟨k + 1, by have := HK.out; omega, by go_num, fun j hj h => by
          by_cases e : j = k
          · subst e; rw [← HP.out]; exact HOK.out
          · exact HA.out j hj (by omega), b1.below hb2, bel_then hb hb2⟩
        case measure => have := HK.out; simp [intOf]; omega
      · have hS2 := okPost_no hok hS
        have hno : okR (dks ps) = false := okR_no (fun h => not_all hlt (by rw [← hP]; exact hok) h.2)
        have HNO := Lib.hid hno
        clear hS hok hfp hd hP hno
        go_wp2_with (go_at_call 44; refine hS2.mono ?_; rintro r w2 ⟨rfl, hb2⟩)
        go_ret
        exact ⟨by rw [HNO.out]; rfl, bel_then hb hb2⟩
    · have hke : k = ps.length := by omega
      subst hke
      have hr : okR (dks ps) = ((ps.length : Int) == 3) := by
        by_cases h3 : ps.length = 3
        · rw [okR_yes ⟨by rw [dks_len]; exact h3, allTo_all HA.out⟩, h3]; rfl
        · rw [okR_no (fun h => h3 (by have := h.1; rwa [dks_len] at this))]
          symm
          simp
          omega
      have HR := Lib.hid hr
      clear hr hA hf
      go_wp2_with fail
      go_ret
      exact ⟨by rw [HR.out]; rfl, hb⟩

set_option maxHeartbeats 1000000 in
theorem ok1 (A B : Option Addr) (c e : Nat) (d : Dk) (w : World) (hd : Bulk d) (h : DkAt w A B d) : Calls Try.prog 87 #[.agg #[.slice A d.cells.length c, .slice B d.waits.length e, .bool d.gone]] w fun r w' => r = .returned (.bool (!okD d)) ∧ Below w.heap.size w w' := by
  have bl : Below w.heap.size w (w.alloc (.cells #[.slice A d.cells.length c, .slice B d.waits.length e, .bool d.gone] 60)) := bel_new (Below.refl _ _) _
  have hI := impl_ok A B c e d _ hd (h.below bl)
  unfold OkPost at hI
  obtain ⟨b, hb⟩ : ∃ b, b = okD d := ⟨_, rfl⟩
  rw [← hb] at hI ⊢
  obtain ⟨n, hn⟩ : ∃ n, n = d.cells.length := ⟨_, rfl⟩
  obtain ⟨m, hm⟩ : ∃ m, m = d.waits.length := ⟨_, rfl⟩
  rw [← hn, ← hm] at hI bl ⊢
  clear hb hn hm hd h
  go_enter Try.func87, Try.ntmps87
  go_wp2_with (go_at_call 88; refine hI.mono ?_; rintro r w2 ⟨rfl, hb2⟩)
  go_ret
  exact ⟨rfl, bel_then bl hb2⟩

/-- Where the first disk is that is not valid, or -1. -/
def Idx (ps : List RD) (w : World) (r : Ending) (w' : World) : Prop := ∃ z : Int, r = .returned (.int .i64 z) ∧ ((0 ≤ z ∧ ¬ ∀ d ∈ dks ps, DkOk d) ∨ (z < 0 ∧ ∀ d ∈ dks ps, DkOk d)) ∧ Below w.heap.size w w'
set_option maxRecDepth 100000 in
set_option maxHeartbeats 2000000 in
theorem idx_bad (A : Option Addr) (cap : Nat) (ps : List RD) (w : World) (hn : ps.length ≤ 1048576) (hf : ∀ p ∈ ps, Bulk p.d) (hA : RAt w A ps) :
    Calls Try.prog 113 #[.slice A ps.length cap, .func (.func 87) #[] #[]] w (Idx ps w) := by
  go_enter Try.func113, Try.ntmps113
  go_wp2
  go_loopw [8] (fun i wr => ∃ k : Nat, k ≤ ps.length ∧ i = .int .i64 k ∧ allTo ps k ∧ Below w.heap.size w wr) (fun i _ => ps.length - (intOf i).toNat)
  case atStart => exact ⟨0, Nat.zero_le _, rfl, fun j hj h => by omega, Below.refl _ _⟩
  case round =>
    obtain ⟨k, hk, rfl, hall, hb⟩ := hrel
    have HA := Lib.hid hall
    clear hall
    by_cases hlt : k < ps.length
    · obtain ⟨b, off, rfl, hlb, z0, z1, z2, hd⟩ := (hA.below hb).cell k hlt
      have hfp := hf ps[k] (List.getElem_mem hlt)
      obtain ⟨P, hP⟩ : ∃ P, P = ps[k] := ⟨_, rfl⟩
      rw [← hP] at z0 z1 z2 hd hfp
      have hS := ok1 P.a P.b P.c P.e P.d wr hfp hd
      have HP := Lib.hid hP
      have HK := Lib.hid hlt
      by_cases hok : DkOk P.d
      · rw [show okD P.d = true from (okD_iff _).2 hok] at hS
        have HOK := Lib.hid hok
        clear hok hfp hd hP
        go_wp2_with (go_at_call 87; refine hS.mono ?_; rintro r w2 ⟨rfl, hb2⟩)
        go_roundw
        case rel => exact ⟨k + 1, by have := HK.out; omega, by go_num, fun j hj h => by
          by_cases e : j = k
          · subst e; rw [← HP.out]; exact HOK.out
          · exact HA.out j hj (by omega), bel_then hb hb2⟩
        case measure => have := HK.out; simp [intOf]; omega
      · rw [okD_no hok] at hS
        have HN := Lib.hid (not_all hlt (by rw [← hP]; exact hok))
        clear hok hfp hd hP
        go_wp2_with (go_at_call 87; refine hS.mono ?_; rintro r w2 ⟨rfl, hb2⟩)
        go_ret
        exact ⟨_, rfl, .inl ⟨by omega, HN.out⟩, bel_then hb hb2⟩
    · have hke : k = ps.length := by omega
      subst hke
      go_wp2_with fail
      go_ret
      exact ⟨_, rfl, .inr ⟨by omega, allTo_all HA.out⟩, hb⟩

set_option maxHeartbeats 1000000 in
theorem has_bad (A : Option Addr) (cap : Nat) (ps : List RD) (w : World) (hn : ps.length ≤ 1048576) (hf : ∀ p ∈ ps, Bulk p.d) (hA : RAt w A ps) :
    Calls Try.prog 86 #[.slice A ps.length cap, .func (.func 87) #[] #[]] w fun r w' => r = .returned (.bool (!decide (∀ d ∈ dks ps, DkOk d))) ∧ Below w.heap.size w w' := by
  have hI := idx_bad A cap ps w hn hf hA
  by_cases h : ∀ d ∈ dks ps, DkOk d
  · have hI2 : Calls Try.prog 113 #[.slice A ps.length cap, .func (.func 87) #[] #[]] w fun r w' => ∃ z : Int, r = .returned (.int .i64 z) ∧ z < 0 ∧ Below w.heap.size w w' := hI.mono fun r w' ⟨z, e, hz, hb⟩ => ⟨z, e, by
      rcases hz with ⟨_, h2⟩ | ⟨h2, _⟩
      · exact absurd h h2
      · exact h2, hb⟩
    rw [decide_eq_true h]
    simp only [Bool.not_true]
    clear h hI hn hf hA
    go_enter Try.func86, Try.ntmps86
    go_wp2_with (go_at_call 113; refine hI2.mono ?_; rintro r w2 ⟨z, rfl, hz, hb2⟩; have hz2 : decide (0 ≤ z) = false := decide_eq_false (by omega))
    go_ret
    exact ⟨rfl, hb2⟩
  · have hI2 : Calls Try.prog 113 #[.slice A ps.length cap, .func (.func 87) #[] #[]] w fun r w' => ∃ z : Int, r = .returned (.int .i64 z) ∧ 0 ≤ z ∧ Below w.heap.size w w' := hI.mono fun r w' ⟨z, e, hz, hb⟩ => ⟨z, e, by
      rcases hz with ⟨h2, _⟩ | ⟨_, h2⟩
      · exact h2
      · exact absurd h2 h, hb⟩
    rw [decide_eq_false h]
    simp only [Bool.not_false]
    clear h hI hn hf hA
    go_enter Try.func86, Try.ntmps86
    go_wp2_with (go_at_call 113; refine hI2.mono ?_; rintro r w2 ⟨z, rfl, hz, hb2⟩)
    go_ret
    exact ⟨rfl, hb2⟩

set_option maxHeartbeats 1000000 in
theorem m_rok (A : Option Addr) (cap : Nat) (ps : List RD) (w : World) (hn : ps.length ≤ 1048576) (hf : ∀ p ∈ ps, Bulk p.d) (hA : RAt w A ps) :
    Calls Try.prog 46 #[.agg #[.slice A ps.length cap]] w fun r w' => r = .returned (.bool (okR (dks ps))) ∧ Below w.heap.size w w' := by
  have bl : Below w.heap.size w (w.alloc (.cells #[.slice A ps.length cap] 24)) := bel_new (Below.refl _ _) _
  by_cases h3 : ps.length = 3
  · have hH := has_bad A cap ps _ hn hf (hA.below bl)
    have hr : okR (dks ps) = decide (∀ d ∈ dks ps, DkOk d) := by
      by_cases ha : ∀ d ∈ dks ps, DkOk d
      · rw [okR_yes ⟨by rw [dks_len]; exact h3, ha⟩, decide_eq_true ha]
      · rw [okR_no (fun h => ha h.2), decide_eq_false ha]
    rw [← hr] at hH
    obtain ⟨b, hb⟩ : ∃ b, b = okR (dks ps) := ⟨_, rfl⟩
    rw [← hb] at hH ⊢
    rw [h3] at hH bl ⊢
    clear hb hr hn hf hA h3
    go_enter Try.func46, Try.ntmps46
    go_wp2_with (go_at_call 86; refine hH.mono ?_; rintro r w2 ⟨rfl, hb2⟩)
    go_ret
    exact ⟨by simp, bel_then bl hb2⟩
  · have hne : ((ps.length : Int) == 3) = false := by simp; omega
    rw [okR_no (fun h => h3 (by have := h.1; rwa [dks_len] at this))]
    clear hn hf hA h3
    go_enter Try.func46, Try.ntmps46
    go_wp2_with fail
    go_ret
    exact ⟨rfl, bl⟩
set_option maxHeartbeats 1000000 in
theorem impl_rok (A : Option Addr) (cap : Nat) (ps : List RD) (w : World) (hn : ps.length ≤ 1048576) (hf : ∀ p ∈ ps, Bulk p.d) (hA : RAt w A ps) :
    Calls Try.prog 19 #[.agg #[.slice A ps.length cap]] w fun r w' => r = .returned (.bool (okR (dks ps))) ∧ Below w.heap.size w w' := by
  have bl : Below w.heap.size w (w.alloc (.cells #[.slice A ps.length cap] 24)) := bel_new (Below.refl _ _) _
  have hH := m_rok A cap ps _ hn hf (hA.below bl)
  obtain ⟨b, hb⟩ : ∃ b, b = okR (dks ps) := ⟨_, rfl⟩
  rw [← hb] at hH ⊢
  clear hb hn hf hA
  go_enter Try.func19, Try.ntmps19
  go_wp2_with (go_at_call 46; refine hH.mono ?_; rintro r w2 ⟨rfl, hb2⟩)
  go_ret
  exact ⟨rfl, bel_then bl hb2⟩
end Go.Proofs.Ytndckncoipkhaaa
