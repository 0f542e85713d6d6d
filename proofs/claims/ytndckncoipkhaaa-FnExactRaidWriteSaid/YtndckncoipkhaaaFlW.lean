/-
  A flush: the model's loop.
-/
import Derived.Test.YtndckncoipkhaaaCrW
namespace Go.Proofs.Ytndckncoipkhaaa
open Go.RowKit

def FB (h3 g c b k n e : Nat) (m : Nat) (x : ByteArray) (W : World) : Prop :=
  W.cell? ⟨h3, 0, none⟩ = some (.slice (some ⟨g, 0, none⟩) 64 c) ∧ W.cell? ⟨h3, 1, none⟩ = some (.slice (some ⟨b, 0, none⟩) m e) ∧ W.cell? ⟨b, k * 2, none⟩ = some (.int .i64 n) ∧ W.cell? ⟨b, k * 2 + 1, none⟩ = some (.string x)
theorem FB.drew {h3 g c b k n e m : Nat} {x : ByteArray} {W : World} (h : FB h3 g c b k n e m x W) : FB h3 g c b k n e m x W.drew := h
theorem FB.store {h3 g c b k n e m : Nat} {x : ByteArray} {W : World} (h : FB h3 g c b k n e m x W) (n3 : g ≠ h3) (n8 : g ≠ b) (i : Nat) (u : Value) : FB h3 g c b k n e m x (W.setCell ⟨g, i, none⟩ u) := by
  obtain ⟨a, b', d, f⟩ := h
  have q := fun (k : Nat) (j : Nat) (hk : g ≠ k) => World.cell?_of_block (a := ⟨k, j, none⟩) (Below.heap_setCell W ⟨g, i, none⟩ u k hk.symm)
  exact ⟨(q h3 0 n3).trans a, (q h3 1 n3).trans b', (q b _ n8).trans d, (q b _ n8).trans f⟩

theorem CrK.drew {base : Nat} {t : TypeId} {g c : Nat} {B : Option Addr} {e : Nat} {ws : List Wt} {gone : Bool} {w W : World} {cs : List ByteArray} (h : CrK base t g c B e ws gone w W cs) : CrK base t g c B e ws gone w W.drew cs :=
  ⟨h.b3, h.b6, h.row, h.wts, gdrew h.bel⟩

set_option maxRecDepth 100000 in
set_option maxHeartbeats 4000000 in
theorem l3flush (base : Nat) (g : Nat) (B : Option Addr) (c e : Nat) (d : Dk) (w : World) (hbase : base ≤ w.heap.size) (hA : DkOwn w base (.agg #[.slice (some ⟨g, 0, none⟩) d.cells.length c, .slice B d.waits.length e, .bool d.gone]) d) (hok : DkOk d) :
    Calls Try.prog 101 #[.agg #[.slice (some ⟨g, 0, none⟩) d.cells.length c, .slice B d.waits.length e, .bool d.gone]] w (OPost base g ⟨st d.waits 1152921504606846975 (-1) d.cells d.waits.length, [], d.gone⟩ w) := by
  obtain ⟨tt, htt, o1, o2⟩ := hA.rows
  clear hA
  obtain ⟨cs, ws, gone⟩ := d
  obtain ⟨h64, h120, _, hsm, hws⟩ := hok
  simp only at o1 o2 h64 h120 hsm hws ⊢
  rw [h64] at o1 ⊢
  obtain ⟨mask, hmask⟩ : ∃ m : Int, m = 1152921504606846975 := ⟨_, rfl⟩
  obtain ⟨tear, htear⟩ : ∃ m : Int, m = -1 := ⟨_, rfl⟩
  rw [← hmask, ← htear]
  have hbit : ∀ k, bitM mask k = true := fun k => by rw [hmask]; exact bit_all k
  have hlen := fun k => st_len ws mask tear cs k
  rw [h64] at hlen
  have bl : Below w.heap.size w ((w.alloc (.cells #[.slice (some ⟨g, 0, none⟩) 64 c, .slice B ws.length e, .bool gone] 60)).alloc (.cells #[.slice none 0 0, .slice none 0 0, .bool false] 60)) := bel_new (bel_new (Below.refl _ _) _) _
  have K0 : CrK base tt g c B e ws gone w ((w.alloc (.cells #[.slice (some ⟨g, 0, none⟩) 64 c, .slice B ws.length e, .bool gone] 60)).alloc (.cells #[.slice none 0 0, .slice none 0 0, .bool false] 60)) cs :=
    ⟨TwoB.bx1 w _ _ _, TwoB.bx2 w _ _ _, own_bel o1 bl, own_bel o2 bl, below_grown bl _⟩
  have hwl := fun k (hk : k < ws.length) => hws ws[k] (List.getElem_mem hk)
  clear o1 o2 bl hws hsm hmask htear
  go_enter Try.func101, Try.ntmps101
  go_wp2
  go_loopw [3] (fun i wr => ∃ k : Nat, k ≤ ws.length ∧ i = .int .i64 k ∧ CrK base tt g c B e ws gone w wr (st ws mask tear cs k)) (fun i _ => ws.length - (intOf i).toNat)
  case atStart => exact ⟨0, Nat.zero_le _, rfl, K0⟩
  case round =>
    clear K0
    obtain ⟨k, hk, rfl, K⟩ := hrel
    by_cases hlt : k < ws.length
    · obtain ⟨⟨x0, x1, x2⟩, _⟩ := K.b3.cells
      obtain ⟨BB, ee, hBe, lw⟩ := own_lies K.wts
      obtain ⟨rfl, rfl⟩ : B = BB ∧ e = ee := by simpa using hBe
      obtain ⟨b, rfl⟩ := own_addr K.wts (by omega)
      obtain ⟨b', off', hbb, hb, y0, y1⟩ := lw.wt k hlt
      obtain ⟨rfl, rfl⟩ : b = b' ∧ 0 = off' := by simpa using hbb
      rw [Nat.zero_add] at y0 y1
      have hgb : g ≠ b := fun h => by
        rcases own_ne K.row K.wts (by rcases htt with rfl | rfl <;> decide) with h' | h'
        · simp [Value.ownBlock] at h'
        · exact h' (by simp [Value.ownBlock, h])
      have hg3 : g ≠ w.heap.size := fun e => own_ne_box K.row K.b3 (by rcases htt with rfl | rfl <;> decide) (by rw [e]; rfl)
      obtain ⟨hn0, hn63, ht200⟩ := hwl k hlt
      have hstep := st_next ws mask tear cs k hlt
      obtain ⟨n, hn⟩ : ∃ n : Nat, ws[k].num = (n : Int) := ⟨ws[k].num.toNat, by omega⟩
      obtain ⟨x, hx⟩ : ∃ x, ws[k].text = x := ⟨_, rfl⟩
      have hst := hlen k
      have hlt' : (k : Int) < (ws.length : Int) := by omega
      rw [hn] at hn63 y0
      rw [hx] at ht200 y1
      have hn64 : (n : Int) < 64 := by omega
      have hn64' : n < 64 := by omega
      have hcN : wr.cell? ⟨g, n, none⟩ = some (.string ((st ws mask tear cs k)[n]'(by omega))) := by
        rw [K.row.cellAt n (by omega)]
        exact strCells_at _ n _
      have hfN := K.row.frozenAt n
      have KM := K.store htt n x
      have hw1 := IntWalk.i64_in ((k : Int) + 1) (by omega)
      obtain ⟨old, hold⟩ : ∃ old, old = (st ws mask tear cs k)[n]'(by omega) := ⟨_, rfl⟩
      rw [← hold] at hcN
      rw [stp_bit (hbit k), hn, hx, Int.toNat_natCast] at hstep
      have HST := Lib.hid hstep
      have fb := (show FB w.heap.size g c b k n e ws.length x wr from ⟨x0, x1, y0, y1⟩)
      have fbd := fb.drew
      clear hstep hbit hold hst hn hx hwl hlen K h120 hbb
      go_upto_region 4 with fail
      clear lw hb
      go_region_held3 (fun W => W.cell? ⟨w.heap.size, 0, none⟩ = some (.slice (some ⟨g, 0, none⟩) 64 c) ∧ W.cell? ⟨w.heap.size, 1, none⟩ = some (.slice (some ⟨b, 0, none⟩) ws.length e) ∧ W.cell? ⟨b, k * 2, none⟩ = some (.int .i64 n) ∧ W.cell? ⟨b, k * 2 + 1, none⟩ = some (.string x))
        ((show FB w.heap.size g c b k n e ws.length x _; with_reducible (first | exact fb | exact fbd | exact (fb.store hg3 hgb _ _).drew | exact fb.store hg3 hgb _ _ | exact fbd.store hg3 hgb _ _)))
        (first | fail)
      go_wp2_with fail
      go_roundw
      case rel => exact ⟨k + 1, by omega, by go_num, by rw [HST.out]; exact KM.drew⟩
      case measure => simp [intOf]; omega
    · have hke : k = ws.length := by omega
      subst hke
      have hl := hlen ws.length
      have lt6 := K.b6.lt
      obtain ⟨⟨r0, r1, r2⟩, _⟩ := K.b3.cells
      have hsz := K.bel.size
      have b3 := K.b3.alloc (.cells #[] 94)
      have b6 := K.b6.alloc (.cells #[] 94)
      obtain ⟨⟨x0, x1, x2⟩, x3, x4, x5⟩ := b3.cells
      obtain ⟨⟨y0, y1, y2⟩, y3, y4, y5⟩ := b6.cells
      have ow : DkOwn (wr.alloc (.cells #[] 94)) base (.agg #[.slice (some ⟨g, 0, none⟩) 64 c, .slice (some ⟨wr.heap.size, 0, none⟩) 0 0, .bool gone]) ⟨st ws mask tear cs ws.length, [], gone⟩ :=
        ⟨tt, _, _, rfl, htt, by rw [hl]; exact K.row.alloc _, World.ownsRow_made (e := 94) (size := 2) wr #[] 0 (by omega) (Nat.zero_le _) rfl⟩
      have ow2 := (ow.set_box b3 1 (.slice (some ⟨wr.heap.size, 0, none⟩) 0 0)).box2 (b6.set (p := ⟨w.heap.size, 1, none⟩) (by simp) (.slice (some ⟨wr.heap.size, 0, none⟩) 0 0)) (.slice (some ⟨g, 0, none⟩) 64 c) (.slice (some ⟨wr.heap.size, 0, none⟩) 0 0) (.bool gone)
      have BB := gset (p := ⟨w.heap.size + 1, 2, none⟩) (gset (p := ⟨w.heap.size + 1, 1, none⟩) (gset (p := ⟨w.heap.size + 1, 0, none⟩) (gset (p := ⟨w.heap.size, 1, none⟩) (galloc K.bel (.cells #[] 94)) (Nat.le_refl _) (.slice (some ⟨wr.heap.size, 0, none⟩) 0 0)) (Nat.le_succ _) (.slice (some ⟨g, 0, none⟩) 64 c)) (Nat.le_succ _) (.slice (some ⟨wr.heap.size, 0, none⟩) 0 0)) (Nat.le_succ _) (.bool gone)
      have q3 : w.heap.size ≠ w.heap.size + 1 := by omega
      clear hlen hwl b3 b6 ow K hbit
      go_wp2_with fail
      refine bodyPost_ret (v := .agg #[.slice (some ⟨g, 0, none⟩) 64 c, .slice (some ⟨wr.heap.size, 0, none⟩) 0 0, .bool gone]) (by simp [results, Try.f101, go_sem, y0, y1, y2]) rfl ?_
      refine ⟨c, wr.heap.size, 0, ?_, ?_, BB, hsz⟩
      · simp only [hl, List.length_nil]
      · simp only [hl, List.length_nil]; exact ow2
end Go.Proofs.Ytndckncoipkhaaa
