/-
  Whether two disks are equal, as the laws of chapter 3 ask it.
-/
import Derived.Test.YtimpdjlgfjehcaaMB
namespace Go.Proofs.Ytimpdjlgfjehcaa
open Go.RowKit

set_option maxHeartbeats 1000000 in
theorem pf_texts (A B : Option Addr) (ca cb : Nat) (ss : List ByteArray) (w : World) (hn : ss.length ≤ 1048576) (hA : Lies w A (strCells ss)) (hB : Lies w B (strCells ss)) :
    Calls Try.prog 11 #[.slice A ss.length ca, .slice B ss.length cb] w fun e w' => e = .returned (.bool true) ∧ Below w.heap.size w w' := by
  have hq0 : ((ss.length : Int) != (ss.length : Int)) = false := by simp
  go_enter Try.func11, Try.ntmps11
  go_wp2
  go_loopw [5] (fun i wr => ∃ k : Nat, k ≤ ss.length ∧ i = .int .i64 k ∧ Below w.heap.size w wr) (fun i _ => ss.length - (intOf i).toNat)
  case atStart => exact ⟨0, Nat.zero_le _, rfl, Below.refl _ _⟩
  case round =>
    obtain ⟨k, hk, rfl, hb⟩ := hrel
    by_cases hlt : k < ss.length
    · obtain ⟨b, off, rfl, hlb, hck⟩ := (hA.below hb).str k hlt
      obtain ⟨b2, off2, rfl, hlb2, hck2⟩ := (hB.below hb).str k hlt
      obtain ⟨x, hx⟩ : ∃ x, x = ss[k] := ⟨_, rfl⟩
      rw [← hx] at hck hck2
      have hq : (!x.toList == x.toList) = false := by simp
      have hlt' : (k : Int) < (ss.length : Int) := by omega
      clear hx
      go_wp2_with fail
      go_quiet (fail)
      go_wp2
      go_roundw
      case rel => exact ⟨k + 1, by omega, by go_num, below_drewN hb _⟩
      case measure => simp [intOf]; omega
    · have hke : k = ss.length := by omega
      subst hke
      go_wp2
      go_ret
      exact ⟨rfl, hb⟩

theorem TwoB.bx1' (w : World) (x y z x2 y2 z2 : Value) : Bx ((w.alloc (.cells #[x, y, z] 26)).alloc (.cells #[x2, y2, z2] 26)) w.heap.size 26 x y z := (Bx.new w 26 x y z).alloc _
theorem TwoB.bx2' (w : World) (x y z x2 y2 z2 : Value) : Bx ((w.alloc (.cells #[x, y, z] 26)).alloc (.cells #[x2, y2, z2] 26)) (w.heap.size + 1) 26 x2 y2 z2 := by
  have := Bx.new (w.alloc (.cells #[x, y, z] 26)) 26 x2 y2 z2
  rw [World.size_alloc] at this
  exact this

set_option maxRecDepth 100000 in
set_option maxHeartbeats 2000000 in
theorem pf_disk (A B A2 B2 : Option Addr) (c e c2 e2 : Nat) (d : Dk) (w : World) (hn : d.cells.length ≤ 1048576) (hm : d.waits.length ≤ 1048576) (h1 : DkAt w A B d) (h2 : DkAt w A2 B2 d) :
    Calls Try.prog 9 #[.agg #[.slice A d.cells.length c, .slice B d.waits.length e, .bool d.gone], .agg #[.slice A2 d.cells.length c2, .slice B2 d.waits.length e2, .bool d.gone]] w fun r w' => r = .returned (.bool true) ∧ Below w.heap.size w w' := by
  have bl : Below w.heap.size w ((w.alloc (.cells #[.slice A d.cells.length c, .slice B d.waits.length e, .bool d.gone] 26)).alloc (.cells #[.slice A2 d.cells.length c2, .slice B2 d.waits.length e2, .bool d.gone] 26)) := bel_new (bel_new (Below.refl _ _) _) _
  have b1 := TwoB.bx1' w (.slice A d.cells.length c) (.slice B d.waits.length e) (.bool d.gone) (.slice A2 d.cells.length c2) (.slice B2 d.waits.length e2) (.bool d.gone)
  have b2 := TwoB.bx2' w (.slice A d.cells.length c) (.slice B d.waits.length e) (.bool d.gone) (.slice A2 d.cells.length c2) (.slice B2 d.waits.length e2) (.bool d.gone)
  have hS := fun W hW => pf_texts A A2 c c2 d.cells W hn (h1.1.below (w' := W) hW) (h2.1.below hW)
  have hT1 := fun W hW => h1.2.below (w' := W) hW
  have hT2 := fun W hW => h2.2.below (w' := W) hW
  have hg : (d.gone != d.gone) = false := by simp
  have hq0 : ((d.waits.length : Int) != (d.waits.length : Int)) = false := by simp
  obtain ⟨cs, ws, g⟩ := d
  simp only at hS hT1 hT2 hg hq0 hm bl b1 b2 ⊢
  clear h1 h2 hn
  go_enter Try.func9, Try.ntmps9
  go_wp2_with (go_at_call 11; refine (hS _ bl).mono ?_; rintro r w2 ⟨rfl, hb2⟩; have B2' := bel_then bl hb2; have b1' := b1.below hb2; have b2' := b2.below hb2; obtain ⟨⟨x0, x1, x2⟩, _⟩ := b1'.cells; obtain ⟨⟨y0, y1, y2⟩, _⟩ := b2'.cells)
  clear hS bl b1 b2
  go_loopw [5] (fun i wr => ∃ k : Nat, k ≤ ws.length ∧ i = .int .i64 k ∧ Bx wr w.heap.size 26 (.slice A cs.length c) (.slice B ws.length e) (.bool g) ∧ Bx wr (w.heap.size + 1) 26 (.slice A2 cs.length c2) (.slice B2 ws.length e2) (.bool g) ∧ Below w.heap.size w wr) (fun i _ => ws.length - (intOf i).toNat)
  case atStart => exact ⟨0, Nat.zero_le _, rfl, b1', b2', B2'⟩
  case round =>
    clear x0 x1 x2 y0 y1 y2 b1' b2' B2' hb2
    obtain ⟨k, hk, rfl, c1, c2', hb⟩ := hrel
    obtain ⟨⟨x0, x1, x2⟩, _⟩ := c1.cells
    obtain ⟨⟨y0, y1, y2⟩, _⟩ := c2'.cells
    by_cases hlt : k < ws.length
    · obtain ⟨b, off, rfl, hlb, u0, u1⟩ := (hT1 _ hb).wt k hlt
      obtain ⟨b2, off2, rfl, hlb2, v0, v1⟩ := (hT2 _ hb).wt k hlt
      obtain ⟨x, hx⟩ : ∃ x, x = ws[k].text := ⟨_, rfl⟩
      obtain ⟨n, hn'⟩ : ∃ n, n = ws[k].num := ⟨_, rfl⟩
      rw [← hx] at u1 v1
      rw [← hn'] at u0 v0
      have hq : (!x.toList == x.toList) = false := by simp
      have hqb : (x.toList == x.toList) = true := by simp
      have hnb : (n == n) = true := by simp
      have hnn : (n != n) = false := by simp
      have hlt' : (k : Int) < (ws.length : Int) := by omega
      clear hx hn'
      go_wp2_with fail
      go_quiet (fail)
      go_wp2
      go_roundw
      case rel => exact ⟨k + 1, by omega, by go_num, c1, c2', below_drewN hb _⟩
      case measure => simp [intOf]; omega
    · have hke : k = ws.length := by omega
      subst hke
      go_wp2
      go_ret
      exact ⟨rfl, hb⟩
theorem pf_own {w : World} {b1 b2 : Nat} {v1 v2 : Value} {d : Dk} (hn : d.cells.length ≤ 1048576) (hm : d.waits.length ≤ 1048576) (h1 : DkOwn w b1 v1 d) (h2 : DkOwn w b2 v2 d) :
    Calls Try.prog 9 #[v1, v2] w fun r w' => r = .returned (.bool true) ∧ Below w.heap.size w w' := by
  obtain ⟨A, c, B, e, rfl, l1⟩ := h1.at_
  obtain ⟨A2, c2, B2, e2, rfl, l2⟩ := h2.at_
  exact pf_disk A B A2 B2 c e c2 e2 d w hn hm l1 l2
end Go.Proofs.Ytimpdjlgfjehcaa
