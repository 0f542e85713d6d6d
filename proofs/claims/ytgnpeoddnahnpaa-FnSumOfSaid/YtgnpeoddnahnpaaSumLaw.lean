/-
  FnSumOf, its walk: the law answers true at every two slices of bytes.
-/
import Derived.Test.YtgnpeoddnahnpaaText
import Derived.Test.YtgnpeoddnahnpaaSumMath
import Derived.Lib.ConvBytes
import Derived.Lib.AtoiErrMem
import Derived.BigRegion
namespace Go.Proofs.Ytgnpeoddnahnpaa
open Go.RowKit

def DrawPost (N : Nat) (w : World) (e : Ending) (w' : World) : Prop := ∃ s : ByteArray, e = .returned (.string s) ∧ s.size ≤ N ∧ Below w.heap.size w w'

set_option maxHeartbeats 1000000 in
theorem draw_sum (A : Option Addr) (n cap : Nat) (w : World) (hn : n ≤ cap) (hA : BytesAt w A n) :
    Calls Try.prog 15 #[.slice A n cap] w (DrawPost 40 w) := by
  have hO := open_rd A n cap w hn hA
  go_enter Try.func15, Try.ntmps15
  go_wp2_with (go_at_call 21; refine hO.mono ?_; rintro e w1 ⟨A1, m, c1, B, rfl, hr⟩; refine Hid.out ?_)
  refine Lib.hid ?_
  have hT := text_any w w1 B A1 m c1 0 40 hr (by omega) (by omega)
  go_wp2_with (go_at_call 22; refine hT.mono ?_; rintro e w2 ⟨s, p', rfl, hs, hr2, _⟩)
  go_ret
  exact ⟨s, rfl, hs, hr2.bel⟩

/-- Block g holds the bytes l, and they may be written. -/
structure BRow (w : World) (g : Nat) (l : List UInt8) : Prop where
  lt : g < w.heap.size
  cell : ∀ (j : Nat) (h : j < l.length), w.cell? ⟨g, j, none⟩ = some (.int .u8 (l[j].toNat : Int))
  free : ∀ j, j < l.length → w.frozen? ⟨g, j, none⟩ = false

theorem BRow.made (w : World) (s : ByteArray) : BRow (Lib.bytesWorld w 5 s) w.heap.size s.data.toList := by
  refine ⟨by rw [Lib.bytesWorld_size]; omega, fun j h => ?_, fun j h => ?_⟩
  · have hj : j < s.size := by simpa using h
    rw [Lib.bytesWorld_cell w 5 s j hj]
    have hd : j < s.data.size := hj
    simp [List.getD, Array.getElem?_eq_getElem hd]
  · have hj : j < s.size := by simpa using h
    have hs : s.size ≤ (Lib.bytesCells w 5 s).size := by simp [Lib.bytesCells]
    simp only [World.frozen?, Lib.bytesWorld_at_new]
    simp
    omega
theorem BRow.set {w : World} {g : Nat} {l : List UInt8} (h : BRow w g l) (k : Nat) (hk : k < l.length) (c : UInt8) : BRow (w.setCell ⟨g, k, none⟩ (.int .u8 (c.toNat : Int))) g (l.set k c) := by
  refine ⟨by have := h.lt; simpa [World.setCell] using this, fun j hj => ?_, fun j hj => ?_⟩
  · simp only [List.length_set] at hj
    by_cases e : k = j
    · subst e
      rw [World.cell?_setCell_same' _ _ _ (by rw [h.cell k hk]; rfl)]
      simp
    · rw [World.cell?_setCell_other _ _ _ _ (by intro e2; injection e2 with _ e3; exact e e3), h.cell j hj]
      simp [e]
  · simp only [List.length_set] at hj
    rw [World.frozen?_setCell]
    exact h.free j hj
theorem BRow.conv {w : World} {g : Nat} {l : List UInt8} (h : BRow w g l) (c : Nat) : (convert 27 9 (.slice (some ⟨g, 0, none⟩) l.length c)).run Try.prog w = .ok (.string (strOf l)) w := by
  have hr := run_convert_bytes_arg (P := Try.prog) w 27 5 Try.underlying27 Try.underlying5 g 0 l.length c (l.map fun c => (c.toNat : Int)) (by simp) (fun i hi => by
    rw [Nat.zero_add, h.cell i hi]
    simp [List.getD, hi]) 9 Try.underlying9
  rw [hr, strOf_nums]

set_option maxHeartbeats 2000000 in
theorem walk_sum (A : Option Addr) (n cap : Nat) (A2 : Option Addr) (n2 cap2 : Nat) (w : World) (hn : n ≤ cap) (hA : BytesAt w A n) :
    Calls Try.prog 6 #[.slice A n cap, .slice A2 n2 cap2] w fun e w' => e = .returned (.bool true) ∧ Below w.heap.size w w' := by
  by_cases h1 : 1048576 < n
  · have h1' : (1048576 : Int) < (n : Int) := by omega
    go_enter Try.func6, Try.ntmps6
    go_wp2
    go_ret
    exact ⟨rfl, Below.refl _ _⟩
  · have h1' : ¬ (1048576 : Int) < (n : Int) := by omega
    by_cases h2 : 1048576 < n2
    · have h2' : (1048576 : Int) < (n2 : Int) := by omega
      go_enter Try.func6, Try.ntmps6
      go_wp2
      go_ret
      exact ⟨rfl, Below.refl _ _⟩
    · have h2' : ¬ (1048576 : Int) < (n2 : Int) := by omega
      have hD := draw_sum A n cap w hn hA
      go_enter Try.func6, Try.ntmps6
      go_wp2_with (go_at_call 15; refine hD.mono ?_; rintro e w1 ⟨s, rfl, hs, hb⟩; refine Hid.out ?_)
      refine Lib.hid ?_
      have hI := fun w => impl_sum s w (by unfold maxLen; omega)
      have hS := fun w => spec_sum s w (by unfold maxLen; omega)
      have hT := sumT_bd s.data.toList
      obtain ⟨x, hx⟩ : ∃ x, x = sumT s.data.toList := ⟨_, rfl⟩
      rw [← hx] at hI hS hT
      have HX := Lib.hid hx
      clear hx hD
      by_cases h0 : s.size = 0
      · have h0' : ¬ (0 : Int) < (s.size : Int) := by omega
        go_wp2_with (first | (go_at_call 10; refine (hI _).mono ?_; rintro e w2 ⟨rfl, rfl⟩) | (go_at_call 9; refine (hS _).mono ?_; rintro e w2 ⟨rfl, rfl⟩))
        go_ret
        exact ⟨rfl, hb⟩
      · have h0' : (0 : Int) < (s.size : Int) := by omega
        have hz0 : (!decide (0 < s.size)) = false := by simp; omega
        have kc := fun (w : World) => Lib.run_convert_string_bytes (P := Try.prog) w 9 27 5 s Try.underlying9 Try.underlying27 Try.underlying5
        obtain ⟨k, hk⟩ : ∃ k, k = n2 % s.size := ⟨_, rfl⟩
        have hks : k < s.size := by rw [hk]; exact Nat.mod_lt _ (by omega)
        have hkr : (n2 : Int) % (s.size : Int) = (k : Int) := by rw [hk]; rfl
        clear hk
        go_wp2_with (first | (go_at_call 10; refine (hI _).mono ?_; rintro e w2 ⟨rfl, rfl⟩) | (go_at_call 9; refine (hS _).mono ?_; rintro e w2 ⟨rfl, rfl⟩))
        have B1 := BRow.made w1 s
        have hbl : Below w.heap.size w (Lib.bytesWorld w1 5 s) := hb.trans ((Lib.bytesWorld_below w1 5 s).mono hb.size)
        obtain ⟨W, hW⟩ : ∃ W, W = Lib.bytesWorld w1 5 s := ⟨_, rfl⟩
        rw [← hW] at B1 hbl ⊢
        obtain ⟨G, hG⟩ : ∃ G, G = w1.heap.size := ⟨_, rfl⟩
        have hGw : w.heap.size ≤ G := by rw [hG]; exact hb.size
        rw [← hG] at B1 ⊢
        obtain ⟨cp, hcp⟩ : ∃ cp, cp = grownCap w1 s.size 0 5 := ⟨_, rfl⟩
        rw [← hcp]
        clear hW hG hcp hb hS
        have hlen : s.data.toList.length = s.size := by simp
        have hck := B1.cell k (by omega)
        have hfk := B1.free k (by omega)
        obtain ⟨d, hd⟩ : ∃ d, d = n2 / s.size := ⟨_, rfl⟩
        have hdl : d ≤ n2 := by rw [hd]; exact Nat.div_le_self _ _
        have t1 : (n2 : Int).tdiv (s.size : Int) = (d : Int) := by rw [hd, Int.tdiv_eq_ediv_of_nonneg (by omega)]; rfl
        have t2 : IntKind.i64.wrap (d : Int) = (d : Int) := IntWalk.i64_in _ (by omega)
        obtain ⟨r, hr⟩ : ∃ r : Nat, r = d % 255 := ⟨_, rfl⟩
        have hr1 : r < 255 := by omega
        have t3 : (d : Int).tmod 255 = (r : Int) := by rw [hr, Int.tmod_eq_emod_of_nonneg (by omega)]; rfl
        have t4 : IntKind.u8.wrap (r : Int) = (r : Int) := IntWalk.u8_in _ (by omega)
        obtain ⟨c, hc⟩ : ∃ c : UInt8, c = s.data.toList[k] := ⟨_, rfl⟩
        rw [← hc] at hck
        obtain ⟨c0, c1⟩ := u8_bd c
        obtain ⟨z, hz⟩ : ∃ z : Int, IntKind.u8.wrap ((c.toNat : Int) + 1) = z ∧ z = ((c.toNat : Int) + 1) % 256 := ⟨_, rfl, by rw [IntKind.wrap_u8]⟩
        obtain ⟨hz1, hz2⟩ := hz
        obtain ⟨c', hc'⟩ := byte_of ((z + (r : Int)) % 256) (by omega) (by omega)
        have t5 : IntKind.u8.wrap (z + (r : Int)) = (c'.toNat : Int) := by rw [IntKind.wrap_u8, hc']
        have hne : c' ≠ c := by
          intro e
          rw [e] at hc'
          omega
        have B2 := B1.set k (by omega) c'
        have hch := sum_changed s.data.toList k c' (by omega) (by rw [← hc]; exact hne)
        have HB2 := Lib.hid B2
        have HCH := Lib.hid hch
        have HC := Lib.hid hc
        have HLN := Lib.hid hlen
        clear hd hr hz2 hc' hne B1 B2 hch hc hlen
        go_region
        have hlen := HLN.out
        have B2 : BRow ((W.setCell ⟨G, k, none⟩ (.int .u8 (c'.toNat : Int))).drew) G (s.data.toList.set k c') := ⟨HB2.out.lt, HB2.out.cell, HB2.out.free⟩
        have hb2 : Below w.heap.size w ((W.setCell ⟨G, k, none⟩ (.int .u8 (c'.toNat : Int))).drew) := (hbl.setCell (p := ⟨G, k, none⟩) hGw _).drew
        obtain ⟨W2, hW2⟩ : ∃ W2, W2 = (W.setCell ⟨G, k, none⟩ (.int .u8 (c'.toNat : Int))).drew := ⟨_, rfl⟩
        rw [← hW2] at B2 hb2 ⊢
        have hcv := B2.conv cp
        rw [List.length_set, hlen] at hcv
        obtain ⟨l2, hl2⟩ : ∃ l2, l2 = s.data.toList.set k c' := ⟨_, rfl⟩
        have hll : l2.length = s.size := by rw [hl2, List.length_set, hlen]
        rw [← hl2] at hcv
        have hI2 := fun w => impl_sum (strOf l2) w (by rw [strOf_size]; unfold maxLen; omega)
        rw [strOf_toList] at hI2
        obtain ⟨y, hy⟩ : ∃ y, y = sumT l2 := ⟨_, rfl⟩
        have hyx : (y == x) = false := by
          rw [beq_eq_false_iff_ne, hy, hl2, HX.out]
          exact HCH.out
        rw [← hy] at hI2
        clear hW2 B2 hl2 hll hy hlen hbl hck hfk t1 t2 t3 t4 t5 hz1 HB2 HCH HC
        go_wp2_with (go_at_call 10; refine (hI2 _).mono ?_; rintro e w3 ⟨rfl, rfl⟩)
        have B3 := BRow.made W2 s
        have hb3 : Below w.heap.size w (Lib.bytesWorld W2 5 s) := hb2.trans ((Lib.bytesWorld_below W2 5 s).mono hb2.size)
        obtain ⟨W3, hW3⟩ : ∃ W3, W3 = Lib.bytesWorld W2 5 s := ⟨_, rfl⟩
        rw [← hW3] at B3 hb3 ⊢
        obtain ⟨G3, hG3⟩ : ∃ G3, G3 = W2.heap.size := ⟨_, rfl⟩
        have hG3w : w.heap.size ≤ G3 := by rw [hG3]; exact hb2.size
        rw [← hG3] at B3 ⊢
        obtain ⟨cp3, hcp3⟩ : ∃ cp3, cp3 = grownCap W2 s.size 0 5 := ⟨_, rfl⟩
        rw [← hcp3]
        clear hW3 hG3 hcp3 hb2 kc hI2 hyx
        have hk0' : (k : Int) < (s.size : Int) := by omega
        by_cases hk1 : k + 1 < s.size
        · have hd1 : decide ((k : Int) + 1 < (s.size : Int)) = true := by simp; omega
          have hl1 : (k : Int) + 1 < (s.size : Int) := by omega
          by_cases hab : s[k] = s[k + 1]
          · have hq : ((s[k].toNat : Int) != (s[k + 1].toNat : Int)) = false := by rw [hab]; simp
            have hw := IntWalk.i64_in ((k : Int) + 1) (by omega)
            have hw0 : 0 ≤ (k : Int) + 1 := by omega
            have hw1 : ((k : Int) + 1).toNat = k + 1 := by omega
            clear hab
            go_quiet (fail)
            clear hw
            go_wp2_with fail
            go_ret
            exact ⟨rfl, below_drewN hb3 _⟩
          · have hq : ((s[k].toNat : Int) != (s[k + 1].toNat : Int)) = true := by
              simp only [bne_iff_ne, ne_eq]
              intro h
              exact hab (UInt8.toNat_inj.1 (by omega))
            have hw := IntWalk.i64_in ((k : Int) + 1) (by omega)
            have hw0 : 0 ≤ (k : Int) + 1 := by omega
            have hw1 : ((k : Int) + 1).toNat = k + 1 := by omega
            go_quiet (fail)
            clear hw
            obtain ⟨W4, hW4⟩ : ∃ W4, W4 = W3.drewN nq := ⟨_, rfl⟩
            have B4 : BRow W4 G3 s.data.toList := by rw [hW4]; exact ⟨B3.lt, B3.cell, B3.free⟩
            have hb4 : Below w.heap.size w W4 := by rw [hW4]; exact below_drewN hb3 nq
            rw [← hW4]
            clear hW4 B3 hb3
            have hlen := HLN.out
            have ha4 := B4.cell k (by omega)
            have hfa4 := B4.free k (by omega)
            have B5 := B4.set k (by omega) s[k + 1]
            have hb5 : Below w.heap.size w (W4.setCell ⟨G3, k, none⟩ (.int .u8 (s[k + 1].toNat : Int))) := hb4.setCell (p := ⟨G3, k, none⟩) hG3w _
            have ha5 := B5.cell (k + 1) (by rw [List.length_set]; omega)
            have hfa5 := B5.free (k + 1) (by rw [List.length_set]; omega)
            have B6 := B5.set (k + 1) (by rw [List.length_set]; omega) s[k]
            have hb6 := hb5.setCell (p := ⟨G3, k + 1, none⟩) hG3w (.int .u8 (s[k].toNat : Int))
            have hcv := B6.conv cp3
            rw [List.length_set, List.length_set, hlen] at hcv
            have hsw := sum_swapped s.data.toList k (by omega) hab
            obtain ⟨l3, hl3⟩ : ∃ l3, l3 = (s.data.toList.set k s[k + 1]).set (k + 1) s[k] := ⟨_, rfl⟩
            have hll : l3.length = s.size := by rw [hl3, List.length_set, List.length_set, hlen]
            rw [← hl3] at hcv
            have hI3 := fun w => impl_sum (strOf l3) w (by rw [strOf_size]; unfold maxLen; omega)
            rw [strOf_toList] at hI3
            obtain ⟨y3, hy3⟩ : ∃ y, y = sumT l3 := ⟨_, rfl⟩
            have hyx3 : (y3 != x) = true := by
              rw [bne_iff_ne, hy3, hl3, HX.out]
              exact hsw
            rw [← hy3] at hI3
            obtain ⟨u, hu⟩ : ∃ u : Value, u = .int .u8 ((s.data.toList[k]'(by omega)).toNat : Int) := ⟨_, rfl⟩
            rw [← hu] at ha4
            obtain ⟨u2, hu2⟩ : ∃ u2 : Value, u2 = .int .u8 (((s.data.toList.set k s[k + 1])[k + 1]'(by rw [List.length_set]; omega)).toNat : Int) := ⟨_, rfl⟩
            rw [← hu2] at ha5
            clear hu hu2 hl3 hll hy3 hsw B4 B5 B6 hlen hb4 hb5 hab hd1
            go_wp2_with (go_at_call 10; refine (hI3 _).mono ?_; rintro e w3 ⟨rfl, rfl⟩)
            go_ret
            exact ⟨rfl, hb6⟩
        · have hd1 : decide ((k : Int) + 1 < (s.size : Int)) = false := by simp; omega
          have hw := IntWalk.i64_in ((k : Int) + 1) (by omega)
          go_quiet (fail)
          clear hw
          go_wp2_with fail
          go_ret
          exact ⟨rfl, below_drewN hb3 _⟩

end Go.Proofs.Ytgnpeoddnahnpaa
