/-
  FnNumGet, its walk: what is read as a number is its number text.
-/
import Derived.Test.YtgnpeoddnahnpaaDoorSpoil
import Derived.Test.YtgnpeoddnahnpaaDoorErrs
import Derived.Test.YtgnpeoddnahnpaaDoorWalkPut
import Derived.ChangeSlices
namespace Go.Proofs.YtgnpeoddnahnpaaDoor
open Go.ChangeShapes Go.WideShapes Go.ChangeAt Go.RowKit

theorem var_on {w w' : World} {g : Nat} {n : String} {cs : Array Value} (hg : Tryd.prog.globalNamed n = some g) (h : w.var? Tryd.prog n = some cs) (hb : Below w.heap.size w w') : w'.var? Tryd.prog n = some cs := by
  unfold World.var? at *
  simp only [hg, Option.bind_some] at h ⊢
  have hlt : g < w.heap.size := by
    rcases Nat.lt_or_ge g w.heap.size with h' | h'
    · exact h'
    · rw [Array.getElem?_eq_none h'] at h
      simp at h
  rw [hb.block g hlt]
  exact h

theorem Errs.below {w w' : World} (h : Errs w) (hb : Below w.heap.size w w') : Errs w' := by
  obtain ⟨a, b, h1⟩ := h.synt
  obtain ⟨c, d, h2⟩ := h.rang
  exact ⟨⟨a, b, var_on gSyn h1 hb⟩, ⟨c, d, var_on gRng h2 hb⟩⟩

theorem IsRd.below {w0 w w' : World} {B : Nat} {A : Option Addr} {m cap p : Nat} (h : IsRd w0 w B A m cap p) (hb : Below w.heap.size w w') : IsRd w0 w' B A m cap p :=
  ⟨(hb.block B h.lt).trans h.blk, h.bts, h.old, h.bel.trans (hb.mono h.bel.size), h.few⟩

theorem num_short (a : Int) : (numText a).length ≤ 9 := by
  unfold numText
  split
  · exact dec_len9 _ (by omega)
  · simp

theorem num_some (a : Int) : ∃ t : ByteArray, t.size ≤ 9 ∧ ∀ w, Calls Tryd.prog 22 #[.int .i64 a] w fun e w' => e = .returned (.string t) ∧ Below w.heap.size w w' :=
  ⟨strOf (numText a), by rw [strOf_size]; exact num_short a, fun w => spec_num a w⟩

def StrPost (N : Nat) (w : World) (e : Ending) (w' : World) : Prop := ∃ s : ByteArray, e = .returned (.string s) ∧ s.size ≤ N ∧ Below w.heap.size w w'

set_option maxRecDepth 100000 in
set_option maxHeartbeats 1000000 in
theorem draw_numget (A : Option Addr) (n cap : Nat) (w : World) (hn : n ≤ cap) (hA : BytesAt w A n) :
    Calls Tryd.prog 30 #[.slice A n cap] w (StrPost 200 w) := by
  have hO := open_rd A n cap w hn hA
  go_enter Tryd.func30, Tryd.ntmps30
  go_wp2_with (go_at_call 39; refine hO.mono ?_; rintro e w1 ⟨A1, m, c1, B, rfl, hr⟩; refine Hid.out ?_)
  refine Lib.hid ?_
  have hK := pick_rd w w1 B A1 m c1 0 256 hr (by omega) (by omega) (by omega)
  clear hr hO
  go_wp2_with (go_at_call 40; refine hK.mono ?_; rintro e w2 ⟨x, x0, x1, rfl, hr2, _⟩; refine Hid.out ?_)
  refine Lib.hid ?_
  have hK2 := pick_rd w w2 B A1 m c1 (0 + 1) 256 hr2 (by omega) (by omega) (by omega)
  clear hr2 hK
  go_wp2_with (go_at_call 40; refine hK2.mono ?_; rintro e w3 ⟨y, y0, y1, rfl, hr3, _⟩; refine Hid.out ?_)
  refine Lib.hid ?_
  have hb0 : 0 ≤ x * (1 + y) := Int.mul_nonneg x0 (by omega)
  have hb1 : x * (1 + y) ≤ 256 * 256 := Int.mul_le_mul (by omega) (by omega) (by omega) (by omega)
  have hw := IntWalk.i64_in (x * (1 + y)) (by omega)
  obtain ⟨t, ht, hP⟩ := num_some (x * (1 + y))
  clear hK2
  go_wp2_with (go_at_call 22; refine (hP _).mono ?_; rintro e w4 ⟨rfl, hb4⟩; refine Hid.out ?_)
  refine Lib.hid ?_
  have hr4 := hr3.below hb4
  have hK3 := pick_rd w w4 B A1 m c1 (0 + 1 + 1) 3 hr4 (by omega) (by omega) (by omega)
  clear hr3 hb4 hP hr4 hw hb0 hb1
  go_wp2_with (go_at_call 40; refine hK3.mono ?_; rintro e w5 ⟨z, z0, z1, rfl, hr5, _⟩; refine Hid.out ?_)
  refine Lib.hid ?_
  clear hK3
  by_cases hx : z = 0
  · subst hx
    have hS := spoil_any w w5 B A1 m c1 (0 + 1 + 1 + 1) t hr5 (by omega) (by omega)
    go_wp2_with (go_at_call 43; refine hS.mono ?_; rintro e w6 ⟨u, rfl, hu, hb6⟩)
    go_ret
    exact ⟨u, rfl, hu, hb6⟩
  · have hx' : (z == 0) = false := by simpa using hx
    go_wp2_with fail
    go_ret
    exact ⟨t, rfl, by omega, hr5.bel⟩

def Tab (w : World) : Prop := Lib.TabBelow Tryd.prog w.heap.size w "internal/strconv.uint64pow10" .u64 Lib.pow10Tab

/-- What reading a short text as a number answers: no number; or the number whose text it is. -/
theorem reads_as (p : ByteArray) (hp : p.size ≤ 200) (W : World) (hT : Tab W) (hE : Errs W) :
    (∃ x : Int, (∀ w, Calls Tryd.prog 24 #[.string p] w fun e w' => e = .returned (.tuple #[.int .i64 x, .bool false]) ∧ w = w') ∧
      (∀ w, Below W.heap.size W w → Calls Tryd.prog 25 #[.string p] w fun e w' => e = .returned (.tuple #[.int .i64 x, .bool false]) ∧ Below w.heap.size w w')) ∨
    (∃ x : Int, 0 ≤ x ∧ (∀ w, Calls Tryd.prog 24 #[.string p] w fun e w' => e = .returned (.tuple #[.int .i64 x, .bool true]) ∧ w = w') ∧
      (∀ w, Below W.heap.size W w → Calls Tryd.prog 25 #[.string p] w fun e w' => e = .returned (.tuple #[.int .i64 x, .bool true]) ∧ Below w.heap.size w w') ∧
      (∀ w, Below W.heap.size W w → Calls Tryd.prog 23 #[.int .i64 x] w fun e w' => e = .returned (.string p) ∧ Below w.heap.size w w')) := by
  have hS := fun w => spec_numget p w (by omega)
  have hI := fun w (hb : Below W.heap.size W w) => impl_numget p w (by omega) (tab_at hT hb) (hE.below hb)
  by_cases hg : Good p.data.toList
  · rw [numG_yes hg] at hS hI
    refine .inr ⟨_, by omega, hS, hI, fun w hb => ?_⟩
    have h := impl_num (val p.data.toList : Int) w (tab_at hT hb).here
    rw [num_of_good hg] at h
    exact h
  · rw [numG_no hg] at hS hI
    exact .inl ⟨_, hS, hI⟩

set_option maxRecDepth 100000 in
set_option maxHeartbeats 1000000 in
theorem walk_numget (A : Option Addr) (n cap : Nat) (w : World) (hn : n ≤ cap) (hA : BytesAt w A n) (hT : Tab w) (hE : Errs w) :
    Calls Tryd.prog 12 #[.slice A n cap] w fun e w' => e = .returned (.bool true) ∧ Below w.heap.size w w' := by
  by_cases h1 : 1048576 < n
  · have h1' : (1048576 : Int) < (n : Int) := by omega
    go_enter Tryd.func12, Tryd.ntmps12
    go_wp2
    go_ret
    exact ⟨rfl, Below.refl _ _⟩
  · have h1' : ¬ (1048576 : Int) < (n : Int) := by omega
    have hD := draw_numget A n cap w hn hA
    have hR := fun (p : ByteArray) (hp : p.size ≤ 200) => reads_as p hp w hT hE
    clear hT hE
    go_enter Tryd.func12, Tryd.ntmps12
    go_wp2_with (go_at_call 30; refine hD.mono ?_; rintro e w1 ⟨p, rfl, hp, hb⟩; refine Hid.out ?_)
    refine Lib.hid ?_
    have hR' := hR p hp
    clear hD hR
    rcases hR' with ⟨x, hS, hI⟩ | ⟨x, hx, hS, hI, hP⟩
    · go_wp2_with (go_at_call 25; refine (hI _ hb).mono ?_; rintro e w2 ⟨rfl, hb2⟩; refine Hid.out ?_)
      refine Lib.hid ?_
      go_wp2_with (go_at_call 24; refine (hS _).mono ?_; rintro e w3 ⟨rfl, rfl⟩)
      go_ret
      exact ⟨rfl, hb.trans (hb2.mono hb.size)⟩
    · go_wp2_with (go_at_call 25; refine (hI _ hb).mono ?_; rintro e w2 ⟨rfl, hb2⟩; refine Hid.out ?_)
      refine Lib.hid ?_
      have c2 := hb.trans (hb2.mono hb.size)
      go_wp2_with (first | (go_at_call 24; refine (hS _).mono ?_; rintro e w3 ⟨rfl, rfl⟩) | (go_at_call 23; refine (hP _ c2).mono ?_; rintro e w4 ⟨rfl, hb4⟩))
      go_ret
      exact ⟨rfl, c2.trans (hb4.mono c2.size)⟩

/-- A slice of bytes that came in leads to its bytes. -/
theorem bytes_open {H : Type} {enc : TypeId × Value → H} {W : World} {base : Nat} {spare : Nat → Bool} {held : Bool} {fuel l cap : Nat} {A : Option Addr} {x : DataW H × List MemPlace}
    (h : DataW.trod enc Tryd.prog W base spare held fuel 36 (Value.cells (.slice A l cap)).toList = some x) : l ≤ cap ∧ BytesAt W A l := by
  rcases open_ints Tryd.underlying36 Tryd.underlying5 (by kernel_rfl) h with ⟨hcs, _⟩ | ⟨x, len, c, zs, hcs, _, hl, hm, hz, _, hcell, hwz⟩
  · simp [Value.cells] at hcs
    obtain ⟨rfl, rfl, rfl⟩ := hcs
    exact ⟨Nat.le_refl _, fun h => absurd h (by omega)⟩
  · simp [Value.cells] at hcs
    obtain ⟨rfl, rfl, rfl⟩ := hcs
    have hz2 : zs.length = if spare x.block = true then cap else l := by simpa using hz
    have hz' : l ≤ zs.length := by rw [hz2]; split <;> omega
    refine ⟨hl, fun h0 => ?_⟩
    have hc0 := hcell 0 (by omega)
    obtain ⟨b, off, spot⟩ := x
    have hspot : spot = none := by simpa [Addr.add] using World.cell?_spot hc0
    subst hspot
    refine ⟨b, off, rfl, World.block_lt_of_cell? W (Addr.add ⟨b, off, none⟩ 0) hc0, fun j hj => ?_⟩
    have hcj := hcell j (by omega)
    have hplain : (⟨b, off, none⟩ : Addr).add j = ⟨b, off + j, none⟩ := by unfold Addr.add; split <;> simp_all
    rw [hplain] at hcj
    have hj2 : j < zs.length := by omega
    have hg : zs.getD j 0 = zs[j] := by simp [List.getD, hj2]
    rw [hg] at hcj
    have hb := bounds_u8 (hwz zs[j] (List.getElem_mem hj2))
    exact ⟨zs[j], hb.1, hb.2, hcj⟩

end Go.Proofs.YtgnpeoddnahnpaaDoor
