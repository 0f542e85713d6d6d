/-
  Whether a disk is valid, as the program asks it: disks that are there.
-/
import Derived.Test.YtadgknkheachaaaIOk
namespace Go.Proofs.Ytadgknkheachaaa
open Go.RowKit

set_option maxRecDepth 100000 in
set_option maxHeartbeats 2000000 in
theorem impl_ok_live (A B : Option Addr) (c e : Nat) (cs : List ByteArray) (ws : List Wt) (w : World) (hd : Bulk ⟨cs, ws, false⟩) (h : DkAt w A B ⟨cs, ws, false⟩) (h64 : cs.length = 64) (h120 : ws.length ≤ 120) :
    Calls Try.prog 63 #[.agg #[.slice A cs.length c, .slice B ws.length e, .bool false]] w (OkPost ⟨cs, ws, false⟩ w) := by
  obtain ⟨hn, hm, hs, ht⟩ := hd
  obtain ⟨l1, l2⟩ := h
  have hC := fun n w => i_cell n w
  have hF := fun s w hs => i_fits s w hs
  simp only at hn hm hs ht l1 l2
  have a1 : ((cs.length : Int) != 64) = false := by rw [h64]; rfl
  have a2 : ¬ (120 : Int) < (ws.length : Int) := by omega
  have H64 := Lib.hid h64
  have HS := Lib.hid hs
  have HT := Lib.hid ht
  have HC := Lib.hid hC
  have HF := Lib.hid hF
  clear h64 hs ht hC hF
  go_enter Try.func63, Try.ntmps63
  go_wp2
  go_loop [34] (fun i => ∃ k : Nat, k ≤ cs.length ∧ i = .int .i64 k ∧ ∀ j (h : j < cs.length), j < k → cs[j].size ≤ 200) (fun i => cs.length - (intOf i).toNat)
  case atStart => exact ⟨0, Nat.zero_le _, rfl, fun j _ h => absurd h (by omega)⟩
  case round =>
    obtain ⟨k, hk, rfl, hok⟩ := hrel
    have HOK := Lib.hid hok
    clear hok
    by_cases hlt : k < cs.length
    · obtain ⟨b, off, rfl, hlb, hck⟩ := l1.str k hlt
      have hsk := HS.out cs[k] (by simp)
      obtain ⟨x, hx⟩ : ∃ x, x = cs[k] := ⟨_, rfl⟩
      rw [← hx] at hck hsk
      have hF := fun w => HF.out x w hsk
      have hlt' : (k : Int) < (cs.length : Int) := by omega
      by_cases h2 : x.size ≤ 200
      · rw [show fitB x = true by simp [fitB, h2]] at hF
        have HX : Hid (cs[k].size ≤ 200) := Lib.hid (by rw [← hx]; exact h2)
        clear hx h2 hsk
        go_wp2_with (go_at_call 85; refine (hF _).mono ?_; rintro e w' ⟨rfl, rfl⟩)
        go_round
        case rel => exact ⟨k + 1, by omega, by go_num, fun j hj hjk => by
          by_cases ej : j = k
          · subst ej; exact HX.out
          · exact HOK.out j hj (by omega)⟩
        case measure => simp [intOf]; omega
      · rw [show fitB x = false by simp [fitB]; omega] at hF
        have hno : ¬ DkOk ⟨cs, ws, false⟩ := fun h => h2 (by rw [hx]; exact h.2.2.2.1 _ (by simp))
        have HN := Lib.hid hno
        clear hno hx h2 hsk
        go_wp2_with (go_at_call 85; refine (hF _).mono ?_; rintro e w' ⟨rfl, rfl⟩)
        go_ret
        exact OkPost.no HN.out (bel_new (Below.refl _ _) _)
    · have hke : k = cs.length := by omega
      subst hke
      have B0 := bel_new (Below.refl w.heap.size w) (.cells #[.slice A cs.length c, .slice B ws.length e, .bool false] 25)
      go_wp2_with fail
      go_loopw [45] (fun i wr => ∃ k : Nat, k ≤ ws.length ∧ i = .int .i64 k ∧ (∀ j (h : j < ws.length), j < k → WtOk ws[j]) ∧ Below w.heap.size w wr) (fun i _ => ws.length - (intOf i).toNat)
      case atStart => exact ⟨0, Nat.zero_le _, rfl, fun j _ h => absurd h (by omega), B0⟩
      case round =>
        obtain ⟨k, hk, rfl, hok, hb⟩ := hrel
        have HW := Lib.hid hok
        clear hok B0
        by_cases hlt : k < ws.length
        · obtain ⟨b, off, rfl, hlb, y0, y1⟩ := (l2.below hb).wt k hlt
          have hsk := HT.out ws[k] (by simp)
          obtain ⟨x, hx⟩ : ∃ x, x = ws[k].text := ⟨_, rfl⟩
          obtain ⟨n, hn'⟩ : ∃ n, n = ws[k].num := ⟨_, rfl⟩
          rw [← hx] at y1 hsk
          rw [← hn'] at y0
          have hlt' : (k : Int) < (ws.length : Int) := by omega
          have hC1 := fun w => HC.out n w
          have hF := fun w => HF.out x w hsk
          by_cases h1 : 0 ≤ n ∧ n ≤ 63
          · rw [cellB_yes h1] at hC1
            by_cases h2 : x.size ≤ 200
            · rw [show fitB x = true by simp [fitB, h2]] at hF
              have HX : Hid (WtOk ws[k]) := Lib.hid ⟨by rw [← hn']; exact h1.1, by rw [← hn']; exact h1.2, by rw [← hx]; exact h2⟩
              clear hx hn' h1 h2 hsk
              go_wp2_with (first | (go_at_call 65; refine (hC1 _).mono ?_; rintro e w' ⟨rfl, rfl⟩) | (go_at_call 85; refine (hF _).mono ?_; rintro e w' ⟨rfl, rfl⟩))
              go_roundw
              case rel => exact ⟨k + 1, by omega, by go_num, fun j hj hjk => by
                by_cases ej : j = k
                · subst ej; exact HX.out
                · exact HW.out j hj (by omega), bel_new hb _⟩
              case measure => simp [intOf]; omega
            · rw [show fitB x = false by simp [fitB]; omega] at hF
              have hno : ¬ DkOk ⟨cs, ws, false⟩ := fun h => h2 (by rw [hx]; exact (h.2.2.2.2 _ (by simp : ws[k] ∈ ws)).2.2)
              have HN := Lib.hid hno
              clear hno hx hn' h1 h2 hsk
              go_wp2_with (first | (go_at_call 65; refine (hC1 _).mono ?_; rintro e w' ⟨rfl, rfl⟩) | (go_at_call 85; refine (hF _).mono ?_; rintro e w' ⟨rfl, rfl⟩))
              go_ret
              exact OkPost.no HN.out (bel_new hb _)
          · rw [cellB_no h1] at hC1
            have hno : ¬ DkOk ⟨cs, ws, false⟩ := fun h => h1 (by have := h.2.2.2.2 _ (by simp : ws[k] ∈ ws); rw [hn']; exact ⟨this.1, this.2.1⟩)
            have HN := Lib.hid hno
            clear hno hx hn' h1 hsk
            go_wp2_with (first | (go_at_call 65; refine (hC1 _).mono ?_; rintro e w' ⟨rfl, rfl⟩) | (go_at_call 85; refine (hF _).mono ?_; rintro e w' ⟨rfl, rfl⟩))
            go_ret
            exact OkPost.no HN.out (bel_new hb _)
        · have hke : k = ws.length := by omega
          subst hke
          have hyes : okD ⟨cs, ws, false⟩ = true := by
            rw [okD_iff]
            refine ⟨H64.out, h120, fun h => absurd (show false = true from h) (by decide), fun s hs => ?_, fun x hx => ?_⟩
            · obtain ⟨j, hj, rfl⟩ := List.getElem_of_mem hs
              exact HOK.out j hj hj
            · obtain ⟨j, hj, rfl⟩ := List.getElem_of_mem hx
              exact HW.out j hj hj
          have HY := Lib.hid hyes
          clear hyes
          go_wp2_with fail
          go_ret
          exact ⟨by rw [HY.out]; rfl, hb⟩

set_option maxRecDepth 100000 in
set_option maxHeartbeats 2000000 in
theorem impl_ok (A B : Option Addr) (c e : Nat) (d : Dk) (w : World) (hd : Bulk d) (h : DkAt w A B d) :
    Calls Try.prog 63 #[.agg #[.slice A d.cells.length c, .slice B d.waits.length e, .bool d.gone]] w (OkPost d w) := by
  obtain ⟨cs, ws, g⟩ := d
  show Calls Try.prog 63 #[.agg #[.slice A cs.length c, .slice B ws.length e, .bool g]] w (OkPost ⟨cs, ws, g⟩ w)
  by_cases h64 : cs.length = 64
  · by_cases h120 : ws.length ≤ 120
    · cases g
      · exact impl_ok_live A B c e cs ws w hd h h64 h120
      · by_cases hz : ws.length = 0
        · exact impl_ok_gone A B c e cs ws w hd h h64 h120 hz
        · have hno : ¬ DkOk ⟨cs, ws, true⟩ := fun h => hz (h.2.2.1 rfl).1
          have a1 : ((cs.length : Int) != 64) = false := by rw [h64]; rfl
          have a2 : ¬ (120 : Int) < (ws.length : Int) := by omega
          have a3 : ((ws.length : Int) == 0) = false := by rw [beq_eq_false_iff_ne]; omega
          have HN := Lib.hid hno
          clear hno h64 h hd hz
          go_enter Try.func63, Try.ntmps63
          go_wp2
          go_ret
          exact OkPost.no HN.out (bel_new (Below.refl _ _) _)
    · have hno : ¬ DkOk ⟨cs, ws, g⟩ := fun h => h120 h.2.1
      have a1 : ((cs.length : Int) != 64) = false := by rw [h64]; rfl
      have a2 : (120 : Int) < (ws.length : Int) := by omega
      have HN := Lib.hid hno
      clear hno h64 h hd h120
      go_enter Try.func63, Try.ntmps63
      go_wp2
      go_ret
      exact OkPost.no HN.out (bel_new (Below.refl _ _) _)
  · have hno : ¬ DkOk ⟨cs, ws, g⟩ := fun h => h64 h.1
    have a1 : ((cs.length : Int) != 64) = true := by simp; omega
    have HN := Lib.hid hno
    clear hno h64 h hd
    go_enter Try.func63, Try.ntmps63
    go_wp2
    go_ret
    exact OkPost.no HN.out (bel_new (Below.refl _ _) _)

set_option maxHeartbeats 1000000 in
theorem impl_dok (A B : Option Addr) (c e : Nat) (d : Dk) (w : World) (hd : Bulk d) (h : DkAt w A B d) :
    Calls Try.prog 30 #[.agg #[.slice A d.cells.length c, .slice B d.waits.length e, .bool d.gone]] w (OkPost d w) := by
  have hO := fun W hW => impl_ok A B c e d W hd (h.below (w' := W) hW)
  go_enter Try.func30, Try.ntmps30
  go_wp2_with (go_at_call 63; refine (hO _ (bel_new (Below.refl _ _) _)).mono ?_; rintro r w2 ⟨rfl, hb2⟩)
  go_ret
  exact ⟨rfl, bel_then (bel_new (Below.refl _ _) _) hb2⟩
end Go.Proofs.Ytadgknkheachaaa
