/-
  The draw of records: some fields, not too many and not too long.
-/
import Derived.Test.YtgnpeoddnahnpaaDoorMany
import Derived.Test.YtgnpeoddnahnpaaDoorWalkPut
namespace Go.Proofs.YtgnpeoddnahnpaaDoor
open Go.RowKit

theorem rd_not_row9 {w0 w : World} {B : Nat} {A : Option Addr} {m cap p base n : Nat} {v : Value} {xs : List Value} (h : IsRd w0 w B A m cap p) (ho : w.ownsRow base 9 1 v n xs) : v.ownBlock ≠ some B := by
  rcases ho.2 with ⟨rfl, _⟩ | ⟨g, c, cur, rfl, _, hg, _⟩
  · simp [Value.ownBlock]
  · intro e
    simp only [Value.ownBlock, Option.some.injEq] at e
    subst e
    have := hg.symm.trans h.blk
    simp at this
theorem own_past9 {w0 w w' : World} {B : Nat} {A : Option Addr} {m cap p base n : Nat} {v : Value} {xs : List Value} (h : IsRd w0 w B A m cap p) (ho : w.ownsRow base 9 1 v n xs) (hg : w.grownBy w' (some B)) : w'.ownsRow base 9 1 v n xs :=
  ho.kept hg (.inr (rd_not_row9 h ho))
theorem IsRd.grown9 {w0 w w' : World} {B : Nat} {A : Option Addr} {m cap p base n : Nat} {v : Value} {xs : List Value} (h : IsRd w0 w B A m cap p) (ho : w.ownsRow base 9 1 v n xs) (hb : w0.heap.size ≤ base) (hg : w.grownBy w' v.ownBlock) : IsRd w0 w' B A m cap p :=
  ⟨(hg.block B h.lt (rd_not_row9 h ho).symm).trans h.blk, h.bts, h.old, h.bel.grown hg h.bel.size (fun k e => Nat.le_trans hb (ho.lt k e).1), h.few⟩

theorem own_str {w : World} {base : Nat} {v : Value} {ss : List ByteArray} {s : ByteArray} (h : w.ownsRow base 9 1 v (ss.length + 1) (strCellsOf ss ++ [.string s])) : w.ownsRow base 9 1 v (ss ++ [s]).length (strCellsOf (ss ++ [s])) := by
  rw [List.length_append, List.length_singleton, show strCellsOf (ss ++ [s]) = strCellsOf ss ++ [.string s] by simp [strCellsOf]]
  exact h
theorem own_form9 {w : World} {base n : Nat} {v : Value} {xs : List Value} (h : w.ownsRow base 9 1 v n xs) (hn : 0 < n) : ∃ g cap, v = .slice (some ⟨g, 0, none⟩) n cap := by
  rcases h.2 with ⟨_, h0⟩ | ⟨g, cap, _, rfl, _⟩
  · omega
  · exact ⟨g, cap, rfl⟩
theorem small_more {ss : List ByteArray} {s : ByteArray} (h : ∀ x ∈ ss, x.size ≤ 3000) (hs : s.size ≤ 3000) : ∀ x ∈ ss ++ [s], x.size ≤ 3000 := by
  intro x hx
  rcases List.mem_append.1 hx with h1 | h1
  · exact h x h1
  · rw [List.mem_singleton.1 h1]; exact hs

def DrawPostS (w : World) (e : Ending) (w' : World) : Prop :=
  ∃ (g cap : Nat) (ss : List ByteArray), e = .returned (.slice (some ⟨g, 0, none⟩) ss.length cap) ∧ w'.ownsRow w.heap.size 9 1 (.slice (some ⟨g, 0, none⟩) ss.length cap) ss.length (strCellsOf ss) ∧ ss.length ≤ 70 ∧ (∀ x ∈ ss, x.size ≤ 3000) ∧ Below w.heap.size w w'

set_option maxRecDepth 100000 in
set_option maxHeartbeats 2000000 in
theorem draw_fields (A : Option Addr) (n cap : Nat) (w : World) (hn : n ≤ cap) (hA : BytesAt w A n) :
    Calls Tryd.prog 26 #[.slice A n cap] w (DrawPostS w) := by
  obtain ⟨i0, hi, hz0, hz1, hz2⟩ := info_parts Tryd.info9
  have hO := open_rd A n cap w hn hA
  go_enter Tryd.func26, Tryd.ntmps26
  go_wp2_with (go_at_call 39; refine hO.mono ?_; rintro e w1 ⟨A1, m, c1, B, rfl, hr⟩; refine Hid.out ?_)
  refine Lib.hid ?_
  have o1 := World.ownsRow_made (e := 9) (base := w.heap.size) w1 (size := 1) #[] 0 hr.bel.size (by decide) rfl
  have hK := fun (o : Obj) => pick_rd w (w1.alloc o) B A1 m c1 0 8 (hr.alloc o) (by omega) (by omega) (by omega)
  clear hO
  go_wp2_with (go_at_call 40; refine (hK _).mono ?_; rintro e w2 ⟨k0, k00, k08, rfl, h2, g2⟩; refine Hid.out ?_)
  refine Lib.hid ?_
  have o2 := own_past9 (hr.alloc _) o1 g2
  clear o1 hr g2 hK
  go_wp2_with fail
  go_loopg [4, 5] k0.toNat (fun g a b wr => ∃ (ss : List ByteArray) (gb cp k p' : Nat), g = k ∧ a = .slice (some ⟨gb, 0, none⟩) ss.length cp ∧ b = .int .i64 k ∧ ss.length + k ≤ 7 ∧ p' ≤ 1 + 26 * ss.length ∧ (∀ x ∈ ss, x.size ≤ 3000) ∧ wr.ownsRow w.heap.size 9 1 (.slice (some ⟨gb, 0, none⟩) ss.length cp) ss.length (strCellsOf ss) ∧ IsRd w wr B A1 m c1 p')
  case atStart => exact ⟨[], _, _, k0.toNat, 0 + 1, rfl, rfl, by rw [Int.toNat_of_nonneg k00], by simp; omega, by simp, by simp, o2, h2⟩
  case round =>
    obtain ⟨ss, g0, c0, k, p', hg, rfl, rfl, hsk, hpp, hsm, ho, hr⟩ := hrel
    have HG := Lib.hid hg
    clear hg o2 h2
    have hsz := hr.bel.size
    by_cases hk0 : 0 < k
    · have hk0' : (0 : Int) < (k : Int) := by omega
      have hT := text_gr w wr B A1 m c1 p' 12 hr (by omega) (by omega)
      go_wp2_with (go_at_call 41; refine hT.mono ?_; rintro e w3 ⟨t, p3, rfl, ht, h3, hp3, g3⟩; refine Hid.out ?_)
      refine Lib.hid ?_
      have o3 := own_past9 hr ho g3
      have s3 := h3.bel.size
      clear hr ho g3 hT
      go_wp2_with (at_builtin; refine wpList_append_own_at _ rfl _ _ 22 rfl w.heap.size 9 i0 (.string ⟨#[]⟩) 1 16 Tryd.underlying22 hi hz0 hz1 hz2 rfl (by decide) _ _ _ rfl (o3.alloc _) ⟨w3.heap.size, 0, none⟩ 1 1 [.string t] rfl rfl (cell_one_new _ _ _) (by simp [Value.oneCell']) (by unfold maxLen; omega) (by omega) (by simp; omega) ?_)
      intro v' w4 hown' hgrow _ hat
      have R := own_str hown'
      have D1 := IsRd.grown9 (h3.alloc _) (o3.alloc _) (Nat.le_refl _) hgrow
      obtain ⟨g4, c4, rfl⟩ := own_form9 R (by simp)
      clear hown' hgrow hat o3 h3
      go_wp2
      go_roundg (k - 1)
      case measure => have := HG.out; omega
      case rel => exact ⟨ss ++ [t], g4, c4, k - 1, p3, rfl, rfl, by go_num, by simp; omega, by simp; omega, small_more hsm (by omega), R, D1⟩
    · have hk0' : ¬ (0 : Int) < (k : Int) := by omega
      have hK7 := pick_rd w wr B A1 m c1 p' 20 hr (by omega) (by omega) (by omega)
      go_wp2_with (go_at_call 40; refine hK7.mono ?_; rintro e w3 ⟨y, y0, y1, rfl, h3, g3⟩; refine Hid.out ?_)
      refine Lib.hid ?_
      have o3 := own_past9 hr ho g3
      clear hr ho g3 hK7
      by_cases hy : y = 0
      · subst hy
        have s3 := h3.bel.size
        go_wp2_with fail
        go_loopg [4] (62 - ss.length) (fun g a wr => ∃ (ss : List ByteArray) (gb cp p' : Nat), g = 62 - ss.length ∧ a = .slice (some ⟨gb, 0, none⟩) ss.length cp ∧ ss.length ≤ 61 ∧ p' ≤ 300 + ss.length ∧ (∀ x ∈ ss, x.size ≤ 3000) ∧ wr.ownsRow w.heap.size 9 1 (.slice (some ⟨gb, 0, none⟩) ss.length cp) ss.length (strCellsOf ss) ∧ IsRd w wr B A1 m c1 p')
        case atStart => exact ⟨ss, g0, c0, p' + 1, rfl, rfl, by omega, by omega, hsm, o3, h3⟩
        case round =>
          clear o3 h3 s3 hsm HG
          obtain ⟨ss, g0, c0, p', hg, rfl, hsk, hpp, hsm, ho, hr⟩ := hrel
          have HG := Lib.hid hg
          clear hg
          have hK8 := pick_rd w wr B A1 m c1 p' 2 hr (by omega) (by omega) (by omega)
          go_wp2_with (go_at_call 40; refine hK8.mono ?_; rintro e w3 ⟨x, x0, x1, rfl, h3, g3⟩; refine Hid.out ?_)
          refine Lib.hid ?_
          have o3 := own_past9 hr ho g3
          have s3 := h3.bel.size
          clear hr ho g3 hK8
          by_cases hlt : (ss.length : Int) < 60 + x
          · go_wp2_with (at_builtin; refine wpList_append_own_at _ rfl _ _ 22 rfl w.heap.size 9 i0 (.string ⟨#[]⟩) 1 16 Tryd.underlying22 hi hz0 hz1 hz2 rfl (by decide) _ _ _ rfl (o3.alloc _) ⟨w3.heap.size, 0, none⟩ 1 1 [.string ⟨#[102]⟩] rfl rfl (cell_one_new _ _ _) (by simp [Value.oneCell']) (by unfold maxLen; omega) (by omega) (by simp; omega) ?_)
            intro v' w4 hown' hgrow _ hat
            have R := own_str hown'
            have D1 := IsRd.grown9 (h3.alloc _) (o3.alloc _) (Nat.le_refl _) hgrow
            obtain ⟨g4, c4, rfl⟩ := own_form9 R (by simp)
            clear hown' hgrow hat o3 h3
            go_wp2
            go_roundg (62 - (ss.length + 1))
            case measure => have := HG.out; omega
            case rel => exact ⟨ss ++ [⟨#[102]⟩], g4, c4, p' + 1, by simp, rfl, by simp; omega, by simp; omega, small_more hsm (by show 1 ≤ 3000; omega), R, D1⟩
          · obtain ⟨wr, hwr⟩ : ∃ x, x = w3 := ⟨_, rfl⟩
            rw [← hwr] at h3 o3 ⊢
            clear hwr
            have hr := h3
            have ho := o3
            clear h3 o3
            obtain ⟨p', hpq⟩ : ∃ x, x = p' + 1 := ⟨_, rfl⟩
            rw [← hpq] at hr
            have hK10 := pick_rd w wr B A1 m c1 p' 20 hr (by omega) (by omega) (by omega)
            go_wp2_with (go_at_call 40; refine hK10.mono ?_; rintro e w5 ⟨z, z0, z1, rfl, hr5, g5⟩; refine Hid.out ?_)
            refine Lib.hid ?_
            have o5 := own_past9 hr ho g5
            clear hr ho g5 hK10
            by_cases hz : z = 0
            · subst hz
              have hK11 := pick_rd w w5 B A1 m c1 (p' + 1) 3 hr5 (by omega) (by omega) (by omega)
              go_wp2_with (go_at_call 40; refine hK11.mono ?_; rintro e w6 ⟨u, u0, u1, rfl, hr6, g6⟩; refine Hid.out ?_)
              refine Lib.hid ?_
              have o6 := own_past9 hr5 o5 g6
              obtain ⟨k, hk⟩ : ∃ k : Nat, (2044 : Int) - u = (k : Int) := ⟨(2044 - u).toNat, by omega⟩
              have hw := IntWalk.i64_in (k : Int) (by omega)
              have hM := many_any ⟨#[120]⟩ k w6 (by show 1 * k ≤ 3000; omega) (by omega)
              clear hr5 o5 g6 hK11
              go_wp2_with (go_at_call 42; refine hM.mono ?_; rintro e w7 ⟨t, rfl, ht, q, rfl⟩; refine Hid.out ?_)
              refine Lib.hid ?_
              obtain ⟨W6, hW6⟩ : ∃ W, W = w6.drewN q := ⟨_, rfl⟩
              have o7 : W6.ownsRow w.heap.size 9 1 (.slice (some ⟨g0, 0, none⟩) ss.length c0) ss.length (strCellsOf ss) := by rw [hW6]; exact ⟨o6.1, o6.2⟩
              have hr7 : IsRd w W6 B A1 m c1 (p' + 1 + 1) := by rw [hW6]; exact ⟨hr6.blk, hr6.bts, hr6.old, below_drewN hr6.bel q, hr6.few⟩
              rw [← hW6]
              clear hW6 o6 hr6 hM
              have s7 := hr7.bel.size
              go_wp2_with (at_builtin; refine wpList_append_own_at _ rfl _ _ 22 rfl w.heap.size 9 i0 (.string ⟨#[]⟩) 1 16 Tryd.underlying22 hi hz0 hz1 hz2 rfl (by decide) _ _ _ rfl (o7.alloc _) ⟨W6.heap.size, 0, none⟩ 1 1 [.string t] rfl rfl (cell_one_new _ _ _) (by simp [Value.oneCell']) (by unfold maxLen; omega) (by omega) (by simp; omega) ?_)
              intro v' w8 hown' hgrow _ hat
              have R := own_str hown'
              have D1 := IsRd.grown9 (hr7.alloc _) (o7.alloc _) (Nat.le_refl _) hgrow
              obtain ⟨g8, c8, rfl⟩ := own_form9 R (by simp)
              clear hown' hgrow hat o7 hr7
              go_wp2
              go_ret
              exact ⟨g8, c8, ss ++ [t], rfl, R, by simp; omega, small_more hsm ht, D1.bel⟩
            · have hz' : (z == 0) = false := by simpa using hz
              go_wp2_with fail
              go_ret
              exact ⟨g0, c0, ss, rfl, o5, by omega, hsm, hr5.bel⟩
      · have hy' : (y == 0) = false := by simpa using hy
        obtain ⟨wr, hwr⟩ : ∃ x, x = w3 := ⟨_, rfl⟩
        rw [← hwr] at h3 o3 ⊢
        clear hwr
        have hr := h3
        have ho := o3
        clear h3 o3
        obtain ⟨p', hpq⟩ : ∃ x, x = p' + 1 := ⟨_, rfl⟩
        rw [← hpq] at hr
        have hK10 := pick_rd w wr B A1 m c1 p' 20 hr (by omega) (by omega) (by omega)
        go_wp2_with (go_at_call 40; refine hK10.mono ?_; rintro e w5 ⟨z, z0, z1, rfl, hr5, g5⟩; refine Hid.out ?_)
        refine Lib.hid ?_
        have o5 := own_past9 hr ho g5
        clear hr ho g5 hK10
        by_cases hz : z = 0
        · subst hz
          have hK11 := pick_rd w w5 B A1 m c1 (p' + 1) 3 hr5 (by omega) (by omega) (by omega)
          go_wp2_with (go_at_call 40; refine hK11.mono ?_; rintro e w6 ⟨u, u0, u1, rfl, hr6, g6⟩; refine Hid.out ?_)
          refine Lib.hid ?_
          have o6 := own_past9 hr5 o5 g6
          obtain ⟨k, hk⟩ : ∃ k : Nat, (2044 : Int) - u = (k : Int) := ⟨(2044 - u).toNat, by omega⟩
          have hw := IntWalk.i64_in (k : Int) (by omega)
          have hM := many_any ⟨#[120]⟩ k w6 (by show 1 * k ≤ 3000; omega) (by omega)
          clear hr5 o5 g6 hK11
          go_wp2_with (go_at_call 42; refine hM.mono ?_; rintro e w7 ⟨t, rfl, ht, q, rfl⟩; refine Hid.out ?_)
          refine Lib.hid ?_
          obtain ⟨W6, hW6⟩ : ∃ W, W = w6.drewN q := ⟨_, rfl⟩
          have o7 : W6.ownsRow w.heap.size 9 1 (.slice (some ⟨g0, 0, none⟩) ss.length c0) ss.length (strCellsOf ss) := by rw [hW6]; exact ⟨o6.1, o6.2⟩
          have hr7 : IsRd w W6 B A1 m c1 (p' + 1 + 1) := by rw [hW6]; exact ⟨hr6.blk, hr6.bts, hr6.old, below_drewN hr6.bel q, hr6.few⟩
          rw [← hW6]
          clear hW6 o6 hr6 hM
          have s7 := hr7.bel.size
          go_wp2_with (at_builtin; refine wpList_append_own_at _ rfl _ _ 22 rfl w.heap.size 9 i0 (.string ⟨#[]⟩) 1 16 Tryd.underlying22 hi hz0 hz1 hz2 rfl (by decide) _ _ _ rfl (o7.alloc _) ⟨W6.heap.size, 0, none⟩ 1 1 [.string t] rfl rfl (cell_one_new _ _ _) (by simp [Value.oneCell']) (by unfold maxLen; omega) (by omega) (by simp; omega) ?_)
          intro v' w8 hown' hgrow _ hat
          have R := own_str hown'
          have D1 := IsRd.grown9 (hr7.alloc _) (o7.alloc _) (Nat.le_refl _) hgrow
          obtain ⟨g8, c8, rfl⟩ := own_form9 R (by simp)
          clear hown' hgrow hat o7 hr7
          go_wp2
          go_ret
          exact ⟨g8, c8, ss ++ [t], rfl, R, by simp; omega, small_more hsm ht, D1.bel⟩
        · have hz' : (z == 0) = false := by simpa using hz
          go_wp2_with fail
          go_ret
          exact ⟨g0, c0, ss, rfl, o5, by omega, hsm, hr5.bel⟩

end Go.Proofs.YtgnpeoddnahnpaaDoor
