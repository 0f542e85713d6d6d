/-
  FnFieldsJoin, its walk: two records, one behind the other, are one.
-/
import Derived.Test.YtgnpeoddnahnpaaDoorJoinLaw
namespace Go.Proofs.YtgnpeoddnahnpaaDoor
open Go.RowKit

theorem own_other9 {w w' : World} {base n : Nat} {v : Value} {xs : List Value} {k : Nat} (h : w.ownsRow base 9 1 v n xs) (hg : w.grownBy w' (some k)) (hne : v.ownBlock ≠ some k) : w'.ownsRow base 9 1 v n xs := h.kept hg (.inr hne)

theorem bytes_at_below {w w' : World} {A : Option Addr} {n : Nat} (h : BytesAt w A n) (hb : Below w.heap.size w w') : BytesAt w' A n := by
  intro h0
  obtain ⟨b, off, rfl, hlt, hc⟩ := h h0
  refine ⟨b, off, rfl, Nat.lt_of_lt_of_le hlt hb.size, fun j hj => ?_⟩
  obtain ⟨z, z0, z1, hz⟩ := hc j hj
  exact ⟨z, z0, z1, (hb.cell (p := ⟨b, off + j, none⟩) hlt).trans hz⟩
theorem own_form9n {w : World} {base n : Nat} {v : Value} {xs : List Value} (h : w.ownsRow base 9 1 v n xs) (hne : v ≠ .slice none 0 0) : ∃ g cap, v = .slice (some ⟨g, 0, none⟩) n cap := by
  rcases h.2 with ⟨h0, _⟩ | ⟨g, cap, _, rfl, _⟩
  · exact absurd h0 hne
  · exact ⟨g, cap, rfl⟩
theorem own_zero9 {w : World} {base : Nat} {v : Value} {n : Nat} {xs ys : List Value} (h : w.ownsRow base 9 1 v (0 + n) ([] ++ xs)) (hx : xs = ys) : w.ownsRow base 9 1 v n ys := by
  rw [Nat.zero_add, List.nil_append, hx] at h
  exact h
theorem fput_short (ss : List ByteArray) : (fput ss).1.length ≤ 2048 := by
  unfold fput
  split
  · rename_i h
    exact h.2
  · simp
theorem bel_row {a w w' : World} {base n : Nat} {v : Value} {xs : List Value} (h : Below a.heap.size a w) (ho : w.ownsRow base 9 1 v n xs) (hb : a.heap.size ≤ base) (hg : w.grownBy w' v.ownBlock) : Below a.heap.size a w' :=
  h.grown hg h.size (fun k e => Nat.le_trans hb (ho.lt k e).1)

theorem own_app9u {w : World} {base : Nat} {v : Value} {ss tt uu : List ByteArray} (h : w.ownsRow base 9 1 v (ss.length + tt.length) (strCellsOf ss ++ strCellsOf tt)) (hu : uu = ss ++ tt) : w.ownsRow base 9 1 v uu.length (strCellsOf uu) := by
  rw [hu]
  exact own_app9 h

set_option maxRecDepth 100000 in
set_option maxHeartbeats 1000000 in
theorem walk_join (A : Option Addr) (n cap : Nat) (A2 : Option Addr) (n2 cap2 : Nat) (w : World) (hn : n ≤ cap) (hA : BytesAt w A n) (hn2 : n2 ≤ cap2) (hA2 : BytesAt w A2 n2) (hT : Tab w) :
    Calls Tryd.prog 7 #[.slice A n cap, .slice A2 n2 cap2] w fun e w' => e = .returned (.bool true) ∧ Below w.heap.size w w' := by
  obtain ⟨i0, hi, hz0, hz1, hz2⟩ := info_parts Tryd.info9
  by_cases h1 : (1048576 : Int) < (n : Int)
  · go_enter Tryd.func7, Tryd.ntmps7
    go_wp2
    go_ret
    exact ⟨rfl, Below.refl _ _⟩
  · by_cases h2 : (1048576 : Int) < (n2 : Int)
    · go_enter Tryd.func7, Tryd.ntmps7
      go_wp2
      go_ret
      exact ⟨rfl, Below.refl _ _⟩
    · have hD := draw_fields A n cap w hn hA
      have hD2 := fun (w1 : World) (hb : Below w.heap.size w w1) => draw_fields A2 n2 cap2 w1 hn2 (bytes_at_below hA2 hb)
      go_enter Tryd.func7, Tryd.ntmps7
      go_wp2_with (go_at_call 26; refine hD.mono ?_; rintro e w1 ⟨ga, ca, ss, rfl, oa, la, sa, hb1⟩; refine Hid.out ?_)
      refine Lib.hid ?_
      have hD3 := hD2 w1 hb1
      go_wp2_with (go_at_call 26; refine hD3.mono ?_; rintro e w2 ⟨gb, cb, tt, rfl, ob, lb, sb, hb2⟩; refine Hid.out ?_)
      refine Lib.hid ?_
      have oa2 := own_below9 oa hb2
      have b2 : Below w.heap.size w w2 := hb1.trans (hb2.mono hb1.size)
      clear hD hD2 hD3 oa
      have eI := fun (w1 : World) (hA : StrsAt w1 (some ⟨ga, 0, none⟩) ss) (hb : Below w.heap.size w w1) => impl_fput (some ⟨ga, 0, none⟩) ca ss w1 (by omega) (fun s hs => by have := sa s hs; omega) hA (tab_at hT hb)
      have fI := fun (w1 : World) (hA : StrsAt w1 (some ⟨gb, 0, none⟩) tt) (hb : Below w.heap.size w w1) => impl_fput (some ⟨gb, 0, none⟩) cb tt w1 (by omega) (fun s hs => by have := sb s hs; omega) hA (tab_at hT hb)
      have eI1 := eI w2 (StrsAt.of_own oa2 rfl) b2
      go_wp2_with (go_at_call 16; refine eI1.mono ?_; rintro e w3 ⟨rfl, hb3⟩; refine Hid.out ?_)
      refine Lib.hid ?_
      have oa3 := own_below9 oa2 hb3
      have ob3 := own_below9 ob hb3
      have b3 : Below w.heap.size w w3 := b2.trans (hb3.mono b2.size)
      clear eI eI1 oa2 ob
      obtain ⟨uu, hu⟩ : ∃ uu, uu = ss ++ tt := ⟨_, rfl⟩
      have lu : uu.length ≤ 140 := by rw [hu, List.length_append]; omega
      have su : ∀ s ∈ uu, s.size ≤ 3000 := fun s hs => by
        rw [hu] at hs
        rcases List.mem_append.1 hs with h | h
        · exact sa s h
        · exact sb s h
      have HU := Lib.hid hu
      clear hu
      have fI1 := fI w3 (StrsAt.of_own ob3 rfl) b3
      go_wp2_with (go_at_call 16; refine fI1.mono ?_; rintro e w4 ⟨rfl, hb4⟩; refine Hid.out ?_)
      refine Lib.hid ?_
      have oa4 := own_below9 oa3 hb4
      have ob4 := own_below9 ob3 hb4
      have b4 : Below w.heap.size w w4 := b3.trans (hb4.mono b3.size)
      clear fI fI1 oa3 ob3
      have o4 := World.ownsRow_made (e := 9) (base := w.heap.size) w4 (size := 1) #[] 0 b4.size (by decide) rfl
      have lga4 := (oa4.lt ga rfl).2
      have lgb4 := (ob4.lt gb rfl).2
      have za := b4.size
      go_wp2_with (at_builtin; refine wpList_append_own_at _ rfl _ _ 22 rfl w.heap.size 9 i0 (.string ⟨#[]⟩) 1 16 Tryd.underlying22 hi hz0 hz1 hz2 rfl (by decide) _ _ _ rfl o4 ⟨ga, 0, none⟩ ss.length ca (strCellsOf ss) rfl (by simp [strCellsOf]) ((oa4.alloc _).cells rfl) (strCells_one ss) (by unfold maxLen; omega) (by omega) (by simp; omega) ?_)
      intro v5 w5 own5 hg5 nil5 at5
      have oa5 := own_other9 (oa4.alloc _) hg5 (by simp [Value.ownBlock]; omega)
      have ob5 := own_other9 (ob4.alloc _) hg5 (by simp [Value.ownBlock]; omega)
      have b5 : Below w.heap.size w w5 := bel_row (b4.alloc b4.size _) o4 (Nat.le_refl _) hg5
      have own5' := own5
      have nn5 : v5 ≠ .slice none 0 0 := nil5
      have na5 : (Value.slice (some ⟨ga, 0, none⟩) ss.length ca).ownBlock ≠ v5.ownBlock := by
        rcases at5 with h | h <;> rw [h] <;> simp [Value.ownBlock] <;> omega
      have nb5 : (Value.slice (some ⟨gb, 0, none⟩) tt.length cb).ownBlock ≠ v5.ownBlock := by
        rcases at5 with h | h <;> rw [h] <;> simp [Value.ownBlock] <;> omega
      clear hg5 own5 at5 nil5 o4 oa4 ob4
      obtain ⟨g5, c5, rfl⟩ := own_form9n own5' nn5
      have zb := b5.size
      go_wp2_with (at_builtin; refine wpList_append_own_at _ rfl _ _ 22 rfl w.heap.size 9 i0 (.string ⟨#[]⟩) 1 16 Tryd.underlying22 hi hz0 hz1 hz2 rfl (by decide) _ _ _ rfl own5' ⟨gb, 0, none⟩ tt.length cb (strCellsOf tt) rfl (by simp [strCellsOf]) (ob5.cells rfl) (strCells_one tt) (by unfold maxLen; omega) (by omega) (by omega) ?_)
      intro v6 w6 own6 hg6 nil6 at6
      have oa6 := oa5.kept hg6 (.inr na5)
      have ob6 := ob5.kept hg6 (.inr nb5)
      have b6 : Below w.heap.size w w6 := bel_row b5 own5' (Nat.le_refl _) hg6
      have own6' := own_app9u own6 HU.out
      have nn6 : v6 ≠ .slice none 0 0 := nil6
      clear hg6 own6 at6 nil6 own5' oa5 ob5 na5 nb5 nn5
      obtain ⟨g6, c6, rfl⟩ := own_form9n own6' nn6
      have cF := impl_fput (some ⟨g6, 0, none⟩) c6 uu w6 (by omega) (fun s hs => by have := su s hs; omega) (StrsAt.of_own own6' rfl) (tab_at hT b6)
      go_wp2_with (go_at_call 16; refine cF.mono ?_; rintro e w7 ⟨rfl, hb7⟩; refine Hid.out ?_)
      refine Lib.hid ?_
      have oa7 := own_below9 oa6 hb7
      have ob7 := own_below9 ob6 hb7
      have b7 : Below w.heap.size w w7 := b6.trans (hb7.mono b6.size)
      clear oa6 ob6 own6' nn6 cF
      have o7 := World.ownsRow_made (e := 9) (base := w.heap.size) w7 (size := 1) #[] 0 b7.size (by decide) rfl
      have lga7 := (oa7.lt ga rfl).2
      have lgb7 := (ob7.lt gb rfl).2
      have za := b7.size
      go_wp2_with (at_builtin; refine wpList_append_own_at _ rfl _ _ 22 rfl w.heap.size 9 i0 (.string ⟨#[]⟩) 1 16 Tryd.underlying22 hi hz0 hz1 hz2 rfl (by decide) _ _ _ rfl o7 ⟨ga, 0, none⟩ ss.length ca (strCellsOf ss) rfl (by simp [strCellsOf]) ((oa7.alloc _).cells rfl) (strCells_one ss) (by unfold maxLen; omega) (by omega) (by simp; omega) ?_)
      intro v8 w8 own8 hg8 nil8 at8
      have oa8 := own_other9 (oa7.alloc _) hg8 (by simp [Value.ownBlock]; omega)
      have ob8 := own_other9 (ob7.alloc _) hg8 (by simp [Value.ownBlock]; omega)
      have b8 : Below w.heap.size w w8 := bel_row (b7.alloc b7.size _) o7 (Nat.le_refl _) hg8
      have own8' := own8
      have nn8 : v8 ≠ .slice none 0 0 := nil8
      have na8 : (Value.slice (some ⟨ga, 0, none⟩) ss.length ca).ownBlock ≠ v8.ownBlock := by
        rcases at8 with h | h <;> rw [h] <;> simp [Value.ownBlock] <;> omega
      have nb8 : (Value.slice (some ⟨gb, 0, none⟩) tt.length cb).ownBlock ≠ v8.ownBlock := by
        rcases at8 with h | h <;> rw [h] <;> simp [Value.ownBlock] <;> omega
      clear hg8 own8 at8 nil8 o7 oa7 ob7
      obtain ⟨g8, c8, rfl⟩ := own_form9n own8' nn8
      have zb := b8.size
      go_wp2_with (at_builtin; refine wpList_append_own_at _ rfl _ _ 22 rfl w.heap.size 9 i0 (.string ⟨#[]⟩) 1 16 Tryd.underlying22 hi hz0 hz1 hz2 rfl (by decide) _ _ _ rfl own8' ⟨gb, 0, none⟩ tt.length cb (strCellsOf tt) rfl (by simp [strCellsOf]) (ob8.cells rfl) (strCells_one tt) (by unfold maxLen; omega) (by omega) (by omega) ?_)
      intro v9 w9 own9 hg9 nil9 at9
      have oa9 := oa8.kept hg9 (.inr na8)
      have ob9 := ob8.kept hg9 (.inr nb8)
      have b9 : Below w.heap.size w w9 := bel_row b8 own8' (Nat.le_refl _) hg9
      have own9' := own_app9u own9 HU.out
      have nn9 : v9 ≠ .slice none 0 0 := nil9
      clear hg9 own9 at9 nil9 own8' oa8 ob8 na8 nb8 nn8
      obtain ⟨g9, c9, rfl⟩ := own_form9n own9' nn9
      have cF := spec_fput (some ⟨g9, 0, none⟩) c9 uu w9 (by omega) (fun s hs => by have := su s hs; omega) (StrsAt.of_own own9' rfl)
      go_wp2_with (go_at_call 14; refine cF.mono ?_; rintro e w10 ⟨rfl, hb10⟩; refine Hid.out ?_)
      refine Lib.hid ?_
      have oa10 := own_below9 oa9 hb10
      have ob10 := own_below9 ob9 hb10
      have b10 : Below w.heap.size w w10 := b9.trans (hb10.mono b9.size)
      clear oa9 ob9 own9' nn9 cF
      have hj := fput_join ss tt
      rw [← HU.out] at hj
      have h3 := fput_short ss
      have h4 := fput_short tt
      clear oa10 ob10 hT sa sb su HU
      obtain ⟨r, hr⟩ : ∃ r, r = fput uu := ⟨_, rfl⟩
      obtain ⟨ra, hra⟩ : ∃ r, r = fput ss := ⟨_, rfl⟩
      obtain ⟨rb, hrb⟩ : ∃ r, r = fput tt := ⟨_, rfl⟩
      rw [← hra, ← hrb, ← hr] at hj
      rw [← hra] at h3
      rw [← hrb] at h4
      rw [← hr, ← hra, ← hrb]
      clear hr hra hrb
      obtain ⟨r1, r2⟩ := r
      obtain ⟨ra1, ra2⟩ := ra
      obtain ⟨rb1, rb2⟩ := rb
      dsimp only at hj h3 h4 ⊢
      rcases hj with rfl | ⟨rfl, rfl, rfl, rfl⟩
      · have hq : (!(strOf r1).toList == (strOf r1).toList) = false := by simp
        have hq2 : ((strOf r1).toList == (strOf r1).toList) = true := by simp
        go_wp2_with fail
        trace_state
        go_ret
        exact ⟨rfl, b10⟩
      · have hadd := add_strs Tryd.prog ra1 rb1 (by omega)
        have hq : (!(strOf (ra1 ++ rb1)).toList == (strOf (ra1 ++ rb1)).toList) = false := by simp
        have hq2 : ((strOf (ra1 ++ rb1)).toList == (strOf (ra1 ++ rb1)).toList) = true := by simp
        go_wp2_with fail
        trace_state
        go_ret
        exact ⟨rfl, b10⟩

end Go.Proofs.YtgnpeoddnahnpaaDoor
