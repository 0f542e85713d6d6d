/-
  settle: the program's loop behind a power failure.
-/
import Derived.Test.YtimpdjlgfjehcaaSpC
import Derived.WalkMore
import Derived.ScopeJumps
namespace Go.Proofs.Ytimpdjlgfjehcaa
open Go.RowKit

/-- The box of a waiting write, and a cell of the array. -/
def SB (h g n : Nat) (x old : ByteArray) (W : World) : Prop :=
  W.cell? ⟨h, 0, none⟩ = some (.int .i64 n) ∧ W.cell? ⟨h, 1, none⟩ = some (.string x) ∧ W.cell? ⟨g, n, none⟩ = some (.string old) ∧ h < W.heap.size ∧ g < W.heap.size
theorem SB.next {h g n : Nat} {x old : ByteArray} {W W' : World} (k : SB h g n x old W) (hb : Below W.heap.size W W') : SB h g n x old W' := by
  obtain ⟨a, b, d, e, f⟩ := k
  exact ⟨(hb.cell (p := ⟨h, 0, none⟩) e).trans a, (hb.cell (p := ⟨h, 1, none⟩) e).trans b, (hb.cell (p := ⟨g, n, none⟩) f).trans d, Nat.lt_of_lt_of_le e hb.size, Nat.lt_of_lt_of_le f hb.size⟩
theorem SB.drew {h g n : Nat} {x old : ByteArray} {W : World} (k : SB h g n x old W) : SB h g n x old W.drew := k
/-- The number in a box. -/
def S7 (h n : Nat) (W : World) : Prop := W.cell? ⟨h, 0, none⟩ = some (.int .i64 n)
theorem S7.drew {h n : Nat} {W : World} (k : S7 h n W) : S7 h n W.drew := k
theorem S7.store {h n g : Nat} {W : World} (k : S7 h n W) (hg : g ≠ h) (i : Nat) (u : Value) : S7 h n (W.setCell ⟨g, i, none⟩ u) :=
  (World.cell?_of_block (a := ⟨h, 0, none⟩) (Below.heap_setCell W ⟨g, i, none⟩ u h hg.symm)).trans k

structure SK (base g c : Nat) (w W : World) (cs : List ByteArray) : Prop where
  row : W.ownsRow base 51 1 (.slice (some ⟨g, 0, none⟩) 64 c) 64 (strCells cs)
  bel : Below base w W
theorem SK.drew {base g c : Nat} {w W : World} {cs : List ByteArray} (h : SK base g c w W cs) : SK base g c w W.drew cs := ⟨h.row, below_drewN h.bel 1⟩
theorem SK.next {base g c : Nat} {w W W' : World} {cs : List ByteArray} (h : SK base g c w W cs) (hb : Below W.heap.size W W') (hs : base ≤ w.heap.size) : SK base g c w W' cs := ⟨own_bel h.row hb, h.bel.trans (hb.mono (Nat.le_trans hs h.bel.size))⟩
theorem SK.store {base g c : Nat} {w W : World} {cs : List ByteArray} (h : SK base g c w W cs) (i : Nat) (s : ByteArray) : SK base g c w (W.setCell ⟨g, i, none⟩ (.string s)) (cs.set i s) :=
  ⟨own_store h.row i s, h.bel.setCell (p := ⟨g, i, none⟩) (h.row.lt g rfl).1 _⟩

set_option maxRecDepth 100000 in
set_option maxHeartbeats 4000000 in
theorem settle (base g c : Nat) (B : Option Addr) (e : Nat) (cs : List ByteArray) (ws : List Wt) (mask tear : Int) (w : World) (hbase : base ≤ w.heap.size) (hrow : w.ownsRow base 51 1 (.slice (some ⟨g, 0, none⟩) 64 c) 64 (strCells cs))
    (h64 : cs.length = 64) (h120 : ws.length ≤ 120) (hsm : SmallC cs) (hws : ∀ x ∈ ws, WtOk x) (h0 : 0 ≤ mask) (h1 : mask ≤ 9223372036854775807) (hT : ∀ W, Below base w W → Lies W B (wtCells ws)) :
    Calls Try.prog 25 #[.pointer (some ⟨g, 0, none⟩), .slice B ws.length e, .int .i64 mask, .int .i64 tear] w fun r w' => (∃ v, r = .returned v) ∧ SK base g c w w' (st ws mask tear cs ws.length) := by
  have hlen := fun k => st_len ws mask tear cs k
  rw [h64] at hlen
  have hsmall := fun k => st_small (mask := mask) (tear := tear) hsm hws k
  have hwl := fun k (hk : k < ws.length) => hws ws[k] (List.getElem_mem hk)
  have K0 : SK base g c w w cs := ⟨hrow, Below.refl _ _⟩
  have hM := fun (k : Nat) (hk : k ≤ 1000) W => mask_has mask k W h0 h1 hk
  clear hrow hsm hws h0 h1
  go_enter Try.func25, Try.ntmps25
  go_wp2
  go_step3
  go_wp2
  go_step3
  go_wp2
  go_loopw [13] (fun i wr => ∃ k : Nat, k ≤ ws.length ∧ i = .int .i64 k ∧ SK base g c w wr (st ws mask tear cs k)) (fun i _ => ws.length - (intOf i).toNat)
  case atStart => exact ⟨0, Nat.zero_le _, rfl, K0⟩
  case round =>
    clear K0
    obtain ⟨k, hk, rfl, K⟩ := hrel
    by_cases hlt : k < ws.length
    · obtain ⟨b, off, rfl, hb, y0, y1⟩ := (hT _ K.bel).wt k hlt
      obtain ⟨hn0, hn63, ht200⟩ := hwl k hlt
      have hstep := st_next ws mask tear cs k hlt
      obtain ⟨n, hn⟩ : ∃ n : Nat, ws[k].num = (n : Int) := ⟨ws[k].num.toNat, by omega⟩
      obtain ⟨x, hx⟩ : ∃ x, ws[k].text = x := ⟨_, rfl⟩
      have hst := hlen k
      have hsk := hsmall k
      have hlt' : (k : Int) < (ws.length : Int) := by omega
      have hMk := hM k (by omega)
      rw [hn] at hn63 y0
      rw [hx] at ht200 y1
      have hn64 : (n : Int) < 64 := by omega
      have hn64' : n < 64 := by omega
      have hge := K.row.lt g rfl
      have hg8 : g ≠ wr.heap.size := by omega
      have KN : SK base g c w (wr.alloc (.cells #[.int .i64 n, .string x] 32)) (st ws mask tear cs k) := K.next (bel_new (Below.refl _ _) _) hbase
      have hcN : (wr.alloc (.cells #[.int .i64 n, .string x] 32)).cell? ⟨g, n, none⟩ = some (.string ((st ws mask tear cs k)[n]'(by omega))) := by
        rw [KN.row.cellAt n (by omega)]
        exact strCells_at _ n _
      have hw1 := IntWalk.i64_in ((k : Int) + 1) (by omega)
      obtain ⟨old, hold⟩ : ∃ old, old = (st ws mask tear cs k)[n]'(by omega) := ⟨_, rfl⟩
      rw [← hold] at hcN
      have c2 := cell_new2 wr 32 (.int .i64 n) (.string x)
      have sb0 : SB wr.heap.size g n x old (wr.alloc (.cells #[.int .i64 n, .string x] 32)) := ⟨c2.1, c2.2, hcN, by simp, by simp; omega⟩
      by_cases hb1 : bitM mask k = true
      · rw [hb1] at hMk
        rw [stp_bit hb1, hn, hx, Int.toNat_natCast] at hstep
        have HST := Lib.hid hstep
        clear hstep hold hsk hst hn hx hwl hsmall hlen K hM hb1 h120
        go_upto_region 7 with (go_at_call 43; refine (hMk _).mono ?_; rintro r w' ⟨rfl, rfl⟩)
        obtain ⟨WN, hWN⟩ : ∃ W, W = wr.alloc (.cells #[.int .i64 n, .string x] 32) := ⟨_, rfl⟩
        rw [← hWN] at sb0 KN ⊢
        clear hWN hcN c2 y0 y1 hb hge
        have s0 : S7 wr.heap.size n WN := sb0.1
        have sd := s0.drew
        have hf := KN.row.frozenAt n
        have hfd : WN.drew.frozen? ⟨g, n, none⟩ = false := hf
        have hc := sb0.2.2.1
        have hcd : WN.drew.cell? ⟨g, n, none⟩ = some (.string old) := hc
        go_region_held3 (fun W => W.cell? ⟨wr.heap.size, 0, none⟩ = some (.int .i64 n))
          ((show S7 wr.heap.size n _; with_reducible (first | exact s0 | exact sd | exact (s0.store hg8 _ _).drew | exact s0.store hg8 _ _ | exact sd.store hg8 _ _)))
          (first | fail)
        have KW := KN.store n x
        have KW2 := KW.drew
        have KW3 := KN.drew.store n x
        go_wp2_with fail
        go_roundw
        case rel => exact ⟨k + 1, by omega, by go_num, by rw [HST.out]; first | exact KW | exact KW2 | exact KW3⟩
        case measure => simp [intOf]; omega
      · have hbf : bitM mask k = false := by simpa using hb1
        rw [hbf] at hMk
        by_cases hte : (k : Int) = tear
        · rw [stp_tear hbf hte, hn, hx, Int.toNat_natCast, List.getD_eq_getElem?_getD, List.getElem?_eq_getElem (by omega), ← hold] at hstep
          simp only [Option.getD_some] at hstep
          have ho200 : old.size ≤ 200 := by rw [hold]; exact hsk _ (List.getElem_mem _)
          have hTo := fun W => impl_torn old x W ho200 ht200
          obtain ⟨z, hz⟩ : ∃ z, z = torn old x := ⟨_, rfl⟩
          rw [← hz] at hTo hstep
          subst hte
          have HST := Lib.hid hstep
          clear hstep hold hsk hst hn hx hwl hsmall hlen K hM hb1 h120 hz ho200
          go_upto_region 6 with (go_at_call 43; refine (hMk _).mono ?_; rintro r w' ⟨rfl, rfl⟩)
          obtain ⟨WN, hWN⟩ : ∃ W, W = wr.alloc (.cells #[.int .i64 n, .string x] 32) := ⟨_, rfl⟩
          rw [← hWN] at sb0 KN ⊢
          clear hWN hcN c2 y0 y1 hb hge
          have sbd := sb0.drew
          go_region_held3 (fun W => W.cell? ⟨wr.heap.size, 0, none⟩ = some (.int .i64 n) ∧ W.cell? ⟨wr.heap.size, 1, none⟩ = some (.string x) ∧ W.cell? ⟨g, n, none⟩ = some (.string old) ∧ wr.heap.size < W.heap.size ∧ g < W.heap.size)
            ((show SB wr.heap.size g n x old _; with_reducible (first | exact sb0 | exact sbd | exact sb2)))
            (first | (go_at_call 44; refine (hTo _).mono ?_; rintro r w2 ⟨rfl, hbl⟩; have sb2 := sbd.next hbl))
          have K2 := KN.drew.next hbl hbase
          have sb2 := sbd.next hbl
          have s0 : S7 wr.heap.size n w2 := sb2.1
          have sd := s0.drew
          have hf := K2.row.frozenAt n
          have hfd : w2.drew.frozen? ⟨g, n, none⟩ = false := hf
          have hc := sb2.2.2.1
          have hcd : w2.drew.cell? ⟨g, n, none⟩ = some (.string old) := hc
          have KW := K2.store n z
          have KW2 := KW.drew
          have KW3 := K2.drew.store n z
          go_upto_region 7 with fail
          go_region_held3 (fun W => W.cell? ⟨wr.heap.size, 0, none⟩ = some (.int .i64 n))
            ((show S7 wr.heap.size n _; with_reducible (first | exact s0 | exact sd | exact (s0.store hg8 _ _).drew | exact s0.store hg8 _ _ | exact sd.store hg8 _ _)))
            (first | fail)
          go_wp2_with fail
          go_roundw
          case rel => exact ⟨k + 1, by omega, by go_num, by rw [HST.out]; first | exact KW | exact KW2 | exact KW3⟩
          case measure => simp [intOf]; omega
        · have hte' : ((k : Int) == tear) = false := by simpa using hte
          rw [stp_none hbf hte] at hstep
          have HST := Lib.hid hstep
          clear hstep hold hsk hst hn hx hwl hsmall hlen K hM hb1 h120
          go_wp2_with (go_at_call 43; refine (hMk _).mono ?_; rintro r w' ⟨rfl, rfl⟩)
          go_roundw
          case rel => exact ⟨k + 1, by omega, by go_num, by rw [HST.out]; exact KN⟩
          case measure => simp [intOf]; omega
    · have hke : k = ws.length := by omega
      subst hke
      clear hlen hsmall hwl hM
      go_wp2_with fail
      first
        | (show bodyPost _ _ _ Exit.normal _ _; refine bodyPost_normal (results_none rfl _ _ _) rfl ?_)
        | (go_end0)
        | (rw [Exit.noGoto_normal]; go_end0)
      exact ⟨⟨_, rfl⟩, K⟩
end Go.Proofs.Ytimpdjlgfjehcaa
