/-
  The row that has a text already: the specification's search, and the program's.
  The row and the pointer of a block that is written.
-/
import Derived.Test.YtmnamclndpfjnaaWrP
import Derived.Test.YtmnamclndpfjnaaRow
import Derived.Test.YtmnamclndpfjnaaFit
import Derived.Test.YtmnamclndpfjnaaFndI
import Derived.Test.YtmnamclndpfjnaaStT

namespace Go.Proofs.Ytmnamclndpfjnaa
open Go.RowKit

theorem txt_inj {a b : ByteArray} (h : a.toList = b.toList) : a = b := by
  rw [ByteArray.toList_eq, ByteArray.toList_eq] at h
  obtain ⟨⟨x⟩⟩ := a
  obtain ⟨⟨y⟩⟩ := b
  have h : x = y := h
  rw [h]
theorem txt_eq (a b : ByteArray) : (a.toList == b.toList) = decide (a = b) := by
  by_cases h : a = b
  · subst h; simp
  · rw [decide_eq_false h, beq_eq_false_iff_ne]
    exact fun e => h (txt_inj e)

set_option maxRecDepth 100000 in
set_option maxHeartbeats 4000000 in
theorem spec_l7like (x : SA) (s : St) (t : ByteArray) (w : World) (hok : StOk s) (ht : ∀ t ∈ s.rows, t.size ≤ maxLen) (hA : StAt w x s) :
    Calls Try.prog 93 #[(.agg #[.slice x.A s.rows.length x.a, .slice x.R s.sp.refs.length x.r, .slice x.L s.sp.last.length x.l, .int .i64 s.txg, .slice x.G s.gone.length x.g, .int .i64 s.keep, .slice x.D s.dead.length x.d, .bool s.same]), .string t] w fun r w' => r = .returned (.int .i64 (likeK s t 8 56)) ∧ Below w.heap.size w w' := by
  have hA1 := hA.rows
  have hA3 := hA.sp.1
  have hA4 := hA.sp.2
  have hl := hok.len
  have h1 := hok.sp.1
  have h2 := hok.sp.2.1
  have hle := fun (k : Nat) (hk : k < 64) => refs_le hok hk
  have hhit := fun (i k : Nat) (h : s.rows.getD i Go.Proofs.Ytmnamclndpfjnaa.b0 = t) (h2 : s.sp.last.getD i 0 < s.txg) => like_hit (k := k) h h2
  have hmiss := fun (i k : Nat) (h : ¬ (s.rows.getD i Go.Proofs.Ytmnamclndpfjnaa.b0 = t ∧ s.sp.last.getD i 0 < s.txg)) => like_miss (k := k) h
  obtain ⟨res, hres⟩ : ∃ r, r = likeK s t 8 56 := ⟨_, rfl⟩
  rw [← hres]
  have HRES := Lib.hid hres
  obtain ⟨xA, xa, xR, xr, xL, xl, xG, xg, xD, xd⟩ := x
  dsimp only at hA1 hA3 hA4 ⊢
  have b0 := B8.new w 28 (.slice xA s.rows.length xa) (.slice xR s.sp.refs.length xr) (.slice xL s.sp.last.length xl) (.int .i64 s.txg) (.slice xG s.gone.length xg) (.int .i64 s.keep) (.slice xD s.dead.length xd) (.bool s.same)
  have B0 := bel_new (Below.refl w.heap.size w) (.cells #[.slice xA s.rows.length xa, .slice xR s.sp.refs.length xr, .slice xL s.sp.last.length xl, .int .i64 s.txg, .slice xG s.gone.length xg, .int .i64 s.keep, .slice xD s.dead.length xd, .bool s.same] 28)
  rw [hl, h1, h2] at b0 B0 ⊢
  have H1 := Lib.hid hl
  have H2 := Lib.hid h1
  have H3 := Lib.hid h2
  have HTX := Lib.hid ht
  have HLE := Lib.hid hle
  have HHI := Lib.hid hhit
  have HMI := Lib.hid hmiss
  clear hok hA hl h1 h2 ht hle hhit hmiss hres
  go_enter Try.func93, Try.ntmps93
  go_wp2_with fail
  go_loopw [5] (fun i wr => ∃ k : Nat, 8 ≤ k ∧ k ≤ 64 ∧ i = .int .i64 k ∧ res = likeK s t k (64 - k) ∧ Below w.heap.size w wr ∧ B8 wr w.heap.size 28 (.slice xA 64 xa) (.slice xR 64 xr) (.slice xL 64 xl) (.int .i64 s.txg) (.slice xG s.gone.length xg) (.int .i64 s.keep) (.slice xD s.dead.length xd) (.bool s.same)) (fun i _ => 64 - (intOf i).toNat)
  case atStart => exact ⟨8, by omega, by omega, rfl, HRES.out, B0, b0⟩
  case round =>
    obtain ⟨k, hk0, hk, rfl, hr, hB, hb⟩ := hrel
    have HR := Lib.hid hr
    clear b0 B0 hr HRES
    have hwl := hb.lt
    obtain ⟨x0, x1, x2, x3, x4, x5, x6, x7⟩ := hb.cells
    by_cases hlt : k < 64
    · have hk1 : k < s.rows.length := by have := H1.out; omega
      have hk2 : k < s.sp.refs.length := by have := H2.out; omega
      have hk3 : k < s.sp.last.length := by have := H3.out; omega
      obtain ⟨b1, o1, rfl, hl1, hc1⟩ := (hA1.below hB).str k hk1
      obtain ⟨b2, o2, rfl, hl2, hc2⟩ := (hA3.below hB).int k hk2
      obtain ⟨b3, o3, rfl, hl3, hc3⟩ := (hA4.below hB).int k hk3
      have g1 : s.rows.getD k Go.Proofs.Ytmnamclndpfjnaa.b0 = s.rows[k] := by rw [List.getD_eq_getElem?_getD, List.getElem?_eq_getElem hk1, Option.getD_some]
      have g2 : s.sp.refs.getD k 0 = s.sp.refs[k] := by rw [List.getD_eq_getElem?_getD, List.getElem?_eq_getElem hk2, Option.getD_some]
      have g3 : s.sp.last.getD k 0 = s.sp.last[k] := by rw [List.getD_eq_getElem?_getD, List.getElem?_eq_getElem hk3, Option.getD_some]
      have hle := HLE.out k hlt
      have hhi := HHI.out k (63 - k)
      have hmi := HMI.out k (63 - k)
      rw [g1, g3] at hhi hmi
      rw [g2, g3] at hle
      have hr := HR.out
      rw [show 64 - k = 63 - k + 1 by omega] at hr
      have htz : s.rows[k].size ≤ maxLen := HTX.out _ (List.getElem_mem hk1)
      obtain ⟨u, hu⟩ : ∃ u, u = s.rows[k] := ⟨_, rfl⟩
      obtain ⟨y, hy⟩ : ∃ y, y = s.sp.refs[k] := ⟨_, rfl⟩
      obtain ⟨z, hz⟩ : ∃ z, z = s.sp.last[k] := ⟨_, rfl⟩
      rw [← hu] at hc1 hhi hmi htz
      rw [← hy] at hc2 hle
      rw [← hz] at hc3 hhi hmi hle
      have hki : (k : Int) < 64 := by omega
      have hte := txt_eq u t
      clear hu hy hz g1 g2 g3 hk1 hk2 hk3 hA1 hA3 hA4 HTX HLE HHI HMI H1 H2 H3 HR
      unfold maxLen at htz
      by_cases he : u = t
      · rw [decide_eq_true he] at hte
        by_cases hzz : z < s.txg
        · have HQ := Lib.hid (hr.trans (hhi he hzz))
          have d1 : decide (z < s.txg) = true := by simpa using hzz
          have d2 : decide (y < s.txg) = true := by simp; omega
          have d3 : y < s.txg := by omega
          clear hhi hmi hr he hle
          go_wp2_with fail
          go_quiet (fail)
          go_wp2_with fail
          go_ret
          exact ⟨by rw [HQ.out]; rfl, below_drewN hB _⟩
        · have HQ := Lib.hid (hr.trans (hmi (fun h => hzz h.2)))
          have d1 : decide (z < s.txg) = false := by simpa using hzz
          clear hhi hmi hr he hle
          go_wp2_with fail
          go_quiet (fail)
          go_wp2_with fail
          go_roundw
          case rel => exact ⟨k + 1, by omega, by omega, by go_num, by rw [HQ.out, show 63 - k = 64 - (k + 1) by omega], below_drewN hB _, hb⟩
          case measure => simp [intOf]; omega
      · rw [decide_eq_false he] at hte
        have HQ := Lib.hid (hr.trans (hmi (fun h => he h.1)))
        clear hhi hmi hr he hle
        go_wp2_with fail
        go_quiet (fail)
        go_wp2_with fail
        go_roundw
        case rel => exact ⟨k + 1, by omega, by omega, by go_num, by rw [HQ.out, show 63 - k = 64 - (k + 1) by omega], below_drewN hB _, hb⟩
        case measure => simp [intOf]; omega
    · have he : k = 64 := by omega
      subst he
      have hki : ¬ (64 : Int) < 64 := by omega
      have HQ : Hid (res = -1) := Lib.hid (HR.out.trans rfl)
      go_wp2_with fail
      go_ret
      exact ⟨by rw [HQ.out]; rfl, hB⟩

set_option maxRecDepth 100000 in
set_option maxHeartbeats 4000000 in
theorem impl_rowwith (x : SA) (s : St) (t : ByteArray) (w : World) (hok : StOk s) (ht : ∀ t ∈ s.rows, t.size ≤ maxLen) (hA : StAt w x s) :
    Calls Try.prog 112 #[(.agg #[.slice x.A s.rows.length x.a, .slice x.R s.sp.refs.length x.r, .slice x.L s.sp.last.length x.l, .int .i64 s.txg, .slice x.G s.gone.length x.g, .int .i64 s.keep, .slice x.D s.dead.length x.d, .bool s.same]), .string t] w fun r w' => r = .returned (.int .i64 (likeK s t 0 64)) ∧ Below w.heap.size w w' := by
  have hA1 := hA.rows
  have hA3 := hA.sp.1
  have hA4 := hA.sp.2
  have hl := hok.len
  have h1 := hok.sp.1
  have h2 := hok.sp.2.1
  have hle := fun (k : Nat) (hk : k < 64) => refs_le hok hk
  have hhit := fun (i k : Nat) (h : s.rows.getD i Go.Proofs.Ytmnamclndpfjnaa.b0 = t) (h2 : s.sp.last.getD i 0 < s.txg) => like_hit (k := k) h h2
  have hmiss := fun (i k : Nat) (h : ¬ (s.rows.getD i Go.Proofs.Ytmnamclndpfjnaa.b0 = t ∧ s.sp.last.getD i 0 < s.txg)) => like_miss (k := k) h
  obtain ⟨res, hres⟩ : ∃ r, r = likeK s t 0 64 := ⟨_, rfl⟩
  rw [← hres]
  have HRES := Lib.hid hres
  obtain ⟨xA, xa, xR, xr, xL, xl, xG, xg, xD, xd⟩ := x
  dsimp only at hA1 hA3 hA4 ⊢
  have b0 := B8.new w 28 (.slice xA s.rows.length xa) (.slice xR s.sp.refs.length xr) (.slice xL s.sp.last.length xl) (.int .i64 s.txg) (.slice xG s.gone.length xg) (.int .i64 s.keep) (.slice xD s.dead.length xd) (.bool s.same)
  have B0 := bel_new (Below.refl w.heap.size w) (.cells #[.slice xA s.rows.length xa, .slice xR s.sp.refs.length xr, .slice xL s.sp.last.length xl, .int .i64 s.txg, .slice xG s.gone.length xg, .int .i64 s.keep, .slice xD s.dead.length xd, .bool s.same] 28)
  rw [hl, h1, h2] at b0 B0 ⊢
  have H1 := Lib.hid hl
  have H2 := Lib.hid h1
  have H3 := Lib.hid h2
  have HTX := Lib.hid ht
  have HLE := Lib.hid hle
  have HHI := Lib.hid hhit
  have HMI := Lib.hid hmiss
  clear hok hA hl h1 h2 ht hle hhit hmiss hres
  go_enter Try.func112, Try.ntmps112
  go_wp2_with fail
  go_loopw [5, 6, 10] (fun _ _ i wr => ∃ k : Nat, 0 ≤ k ∧ k ≤ 64 ∧ i = .int .i64 k ∧ res = likeK s t k (64 - k) ∧ Below w.heap.size w wr ∧ B8 wr w.heap.size 28 (.slice xA 64 xa) (.slice xR 64 xr) (.slice xL 64 xl) (.int .i64 s.txg) (.slice xG s.gone.length xg) (.int .i64 s.keep) (.slice xD s.dead.length xd) (.bool s.same)) (fun _ _ i _ => 64 - (intOf i).toNat)
  case atStart => exact ⟨0, by omega, by omega, rfl, HRES.out, B0, b0⟩
  case round =>
    obtain ⟨k, hk0, hk, rfl, hr, hB, hb⟩ := hrel
    have HR := Lib.hid hr
    clear b0 B0 hr HRES
    have hwl := hb.lt
    obtain ⟨x0, x1, x2, x3, x4, x5, x6, x7⟩ := hb.cells
    by_cases hlt : k < 64
    · have hk1 : k < s.rows.length := by have := H1.out; omega
      have hk2 : k < s.sp.refs.length := by have := H2.out; omega
      have hk3 : k < s.sp.last.length := by have := H3.out; omega
      obtain ⟨b1, o1, rfl, hl1, hc1⟩ := (hA1.below hB).str k hk1
      obtain ⟨b2, o2, rfl, hl2, hc2⟩ := (hA3.below hB).int k hk2
      obtain ⟨b3, o3, rfl, hl3, hc3⟩ := (hA4.below hB).int k hk3
      have g1 : s.rows.getD k Go.Proofs.Ytmnamclndpfjnaa.b0 = s.rows[k] := by rw [List.getD_eq_getElem?_getD, List.getElem?_eq_getElem hk1, Option.getD_some]
      have g2 : s.sp.refs.getD k 0 = s.sp.refs[k] := by rw [List.getD_eq_getElem?_getD, List.getElem?_eq_getElem hk2, Option.getD_some]
      have g3 : s.sp.last.getD k 0 = s.sp.last[k] := by rw [List.getD_eq_getElem?_getD, List.getElem?_eq_getElem hk3, Option.getD_some]
      have hle := HLE.out k hlt
      have hhi := HHI.out k (63 - k)
      have hmi := HMI.out k (63 - k)
      rw [g1, g3] at hhi hmi
      rw [g2, g3] at hle
      have hr := HR.out
      rw [show 64 - k = 63 - k + 1 by omega] at hr
      have htz : s.rows[k].size ≤ maxLen := HTX.out _ (List.getElem_mem hk1)
      obtain ⟨u, hu⟩ : ∃ u, u = s.rows[k] := ⟨_, rfl⟩
      obtain ⟨y, hy⟩ : ∃ y, y = s.sp.refs[k] := ⟨_, rfl⟩
      obtain ⟨z, hz⟩ : ∃ z, z = s.sp.last[k] := ⟨_, rfl⟩
      rw [← hu] at hc1 hhi hmi htz
      rw [← hy] at hc2 hle
      rw [← hz] at hc3 hhi hmi hle
      have hki : (k : Int) < 64 := by omega
      have hte := txt_eq u t
      clear hu hy hz g1 g2 g3 hk1 hk2 hk3 hA1 hA3 hA4 HTX HLE HHI HMI H1 H2 H3 HR
      unfold maxLen at htz
      by_cases he : u = t
      · rw [decide_eq_true he] at hte
        by_cases hzz : z < s.txg
        · have HQ := Lib.hid (hr.trans (hhi he hzz))
          have d1 : decide (z < s.txg) = true := by simpa using hzz
          have d2 : decide (y < s.txg) = true := by simp; omega
          have d3 : y < s.txg := by omega
          clear hhi hmi hr he hle
          go_wp2_with fail
          go_quiet (fail)
          go_wp2_with fail
          go_ret
          exact ⟨by rw [HQ.out]; rfl, below_drewN hB _⟩
        · have HQ := Lib.hid (hr.trans (hmi (fun h => hzz h.2)))
          have d1 : decide (z < s.txg) = false := by simpa using hzz
          clear hhi hmi hr he hle
          go_wp2_with fail
          go_quiet (fail)
          go_wp2_with fail
          go_roundw
          case rel => exact ⟨k + 1, by omega, by omega, by go_num, by rw [HQ.out, show 63 - k = 64 - (k + 1) by omega], below_drewN hB _, hb⟩
          case measure => simp [intOf]; omega
      · rw [decide_eq_false he] at hte
        have HQ := Lib.hid (hr.trans (hmi (fun h => he h.1)))
        clear hhi hmi hr he hle
        go_wp2_with fail
        go_quiet (fail)
        go_wp2_with fail
        go_roundw
        case rel => exact ⟨k + 1, by omega, by omega, by go_num, by rw [HQ.out, show 63 - k = 64 - (k + 1) by omega], below_drewN hB _, hb⟩
        case measure => simp [intOf]; omega
    · have he : k = 64 := by omega
      subst he
      have hki : ¬ (64 : Int) < 64 := by omega
      have HQ : Hid (res = -1) := Lib.hid (HR.out.trans rfl)
      go_wp2_with fail
      go_ret
      exact ⟨by rw [HQ.out]; rfl, hB⟩
end Go.Proofs.Ytmnamclndpfjnaa

namespace Go.Proofs.Ytmnamclndpfjnaa
open Go.RowKit

/-- A block of five numbers. -/
def V5 (W : World) (g : Nat) (a b c d e : Int) : Prop := W.heap[g]? = some (.cells #[.int .i64 a, .int .i64 b, .int .i64 c, .int .i64 d, .int .i64 e] 45 (0, 0))
section
variable {W W' : World} {g : Nat} {a b c d e : Int}
theorem V5.new (w : World) (a b c d e : Int) : V5 (w.alloc (.cells #[.int .i64 a, .int .i64 b, .int .i64 c, .int .i64 d, .int .i64 e] 45)) w.heap.size a b c d e := heap_alloc_new w _
theorem V5.lt (h : V5 W g a b c d e) : g < W.heap.size := (Array.getElem?_eq_some_iff.1 h).1
theorem V5.below (h : V5 W g a b c d e) (hb : Below W.heap.size W W') : V5 W' g a b c d e := (hb.block g h.lt).trans h
theorem V5.belowB {B : Nat} (h : V5 W g a b c d e) (hb : Below B W W') (hg : g < B) : V5 W' g a b c d e := (hb.block g hg).trans h
theorem V5.alloc (h : V5 W g a b c d e) (o : Obj) : V5 (W.alloc o) g a b c d e := (Below.heap_alloc W o g h.lt).trans h
theorem V5.drew (h : V5 W g a b c d e) : V5 W.drew g a b c d e := h
theorem V5.set (h : V5 W g a b c d e) {p : Addr} (hp : g ≠ p.block) (u : Value) : V5 (W.setCell p u) g a b c d e := (Below.heap_setCell W p u g hp).trans h
theorem V5.only {lo hi : Nat} (h : V5 W g a b c d e) (hg : Only lo hi W W') (hn : ¬ (lo ≤ g ∧ g < hi)) : V5 W' g a b c d e := (hg.block g h.lt hn).trans h
theorem V5.cell (h : V5 W g a b c d e) (i : Nat) : W.cell? ⟨g, i, none⟩ = (#[.int .i64 a, .int .i64 b, .int .i64 c, .int .i64 d, .int .i64 e] : Array Value)[i]? ∧ W.frozen? ⟨g, i, none⟩ = false := by
  have h' : W.heap[g]? = some (.cells #[.int .i64 a, .int .i64 b, .int .i64 c, .int .i64 d, .int .i64 e] 45 (0, 0)) := h
  exact ⟨by simp [World.cell?, h'], by simp [World.frozen?, h']⟩
theorem V5.cells (h : V5 W g a b c d e) : W.cell? ⟨g, 0, none⟩ = some (.int .i64 a) ∧ W.cell? ⟨g, 1, none⟩ = some (.int .i64 b) ∧ W.cell? ⟨g, 2, none⟩ = some (.int .i64 c) ∧ W.cell? ⟨g, 3, none⟩ = some (.int .i64 d) ∧ W.cell? ⟨g, 4, none⟩ = some (.int .i64 e) := ⟨(h.cell 0).1, (h.cell 1).1, (h.cell 2).1, (h.cell 3).1, (h.cell 4).1⟩
theorem V5.fro (h : V5 W g a b c d e) : W.frozen? ⟨g, 0, none⟩ = false ∧ W.frozen? ⟨g, 1, none⟩ = false ∧ W.frozen? ⟨g, 2, none⟩ = false ∧ W.frozen? ⟨g, 3, none⟩ = false ∧ W.frozen? ⟨g, 4, none⟩ = false := ⟨(h.cell 0).2, (h.cell 1).2, (h.cell 2).2, (h.cell 3).2, (h.cell 4).2⟩
variable {u0 u1 u2 u3 u4 : Int}
/-- Five numbers are written over others. -/
theorem V5.put (h : V5 W g a b c d e) : V5 (((((W.setCell ⟨g, 0, none⟩ (.int .i64 u0)).setCell ⟨g, 1, none⟩ (.int .i64 u1)).setCell ⟨g, 2, none⟩ (.int .i64 u2)).setCell ⟨g, 3, none⟩ (.int .i64 u3)).setCell ⟨g, 4, none⟩ (.int .i64 u4)) g u0 u1 u2 u3 u4 :=
  heap_put (heap_put (heap_put (heap_put (heap_put h 0 _) 1 _) 2 _) 3 _) 4 _
end
theorem block_in (t : ByteArray) : inB (t.size : Int) 1 128 = decide (blockB t) := by
  unfold inB blockB
  by_cases h : 1 ≤ t.size ∧ t.size ≤ 128
  · rw [decide_eq_true h]; simp; omega
  · rw [decide_eq_false h]; simp; omega
theorem spec_block (t : ByteArray) (w : World) : Calls Try.prog 59 #[.string t] w fun r w' => r = .returned (.bool (decide (blockB t))) ∧ w = w' := by
  have h := s_in (t.size : Int) 1 128
  rw [block_in] at h
  go_enter Try.func59, Try.ntmps59
  go_wp2_with (go_at_call 49; refine (h _).mono ?_; rintro r w1 ⟨rfl, rfl⟩)
  go_ret
  exact ⟨rfl, rfl⟩
theorem impl_block (t : ByteArray) (w : World) : Calls Try.prog 62 #[.string t] w fun r w' => r = .returned (.bool (decide (blockB t))) ∧ w = w' := by
  have h := i_in (t.size : Int) 1 128
  rw [block_in] at h
  go_enter Try.func62, Try.ntmps62
  go_wp2_with (go_at_call 63; refine (h _).mono ?_; rintro r w1 ⟨rfl, rfl⟩)
  go_ret
  exact ⟨rfl, rfl⟩
theorem ptr_made {n tx lv : Int} {t : ByteArray} (hn : 8 ≤ n ∧ n ≤ 63) (ht : 1 ≤ tx ∧ tx ≤ 900) (hl : 0 ≤ lv ∧ lv ≤ 2) (hb : blockB t) : isOk n tx (t.size : Int) (sumT t.data.toList) lv = true := by
  unfold isOk
  have hb1 := hb.1
  have hb2 := hb.2
  rw [inB_yes hn, inB_yes ht, inB_yes (by omega), inB_yes (sumT_bd _), inB_yes hl]
  simp
set_option maxHeartbeats 2000000 in
theorem spec_ptrof (n tx lv : Int) (t : ByteArray) (w : World) (hn : 8 ≤ n ∧ n ≤ 63) (ht : 1 ≤ tx ∧ tx ≤ 900) (hl : 0 ≤ lv ∧ lv ≤ 2) (hb : blockB t) :
    Calls Try.prog 95 #[.int .i64 n, .int .i64 tx, .int .i64 lv, .string t] w fun r w' => r = .returned (.tuple #[.agg #[.int .i64 n, .int .i64 tx, .int .i64 (t.size : Int), .int .i64 (sumT t.data.toList), .int .i64 lv], .bool true]) ∧ Below w.heap.size w w' := by
  have hsz : t.size ≤ maxLen := by have := hb.2; unfold maxLen; omega
  have hB := fun w => spec_block t w
  rw [decide_eq_true hb] at hB
  have hS := fun w => spec_sum t w hsz
  have hP : ∀ W, Calls Try.prog 50 #[.agg #[.int .i64 n, .int .i64 tx, .int .i64 (t.size : Int), .int .i64 (sumT t.data.toList), .int .i64 lv]] W fun r w' => r = .returned (.bool true) ∧ Below W.heap.size W w' := fun W => (spec_pok _ _ _ _ _ W).mono fun r w' ⟨h1, h2⟩ => ⟨by rw [h1, ptr_made hn ht hl hb], by subst h2; first | exact bel_new (bel_new (Below.refl _ _) _) _ | exact bel_new (Below.refl _ _) _⟩
  have h128 := hb.2
  generalize sumT t.data.toList = z at *
  clear hn ht hl hb hsz
  have hbel : Below w.heap.size w ((w.alloc (.cells #[.int .i64 0, .int .i64 0, .int .i64 0, .int .i64 0, .int .i64 0] 45)).alloc (.cells #[.int .i64 n, .int .i64 tx, .int .i64 (t.size : Int), .int .i64 z, .int .i64 lv] 45)) := bel_new (bel_new (Below.refl _ _) _) _
  go_enter Try.func95, Try.ntmps95
  go_wp2_with (first
    | (go_at_call 59; refine (hB _).mono ?_; rintro r w1 ⟨rfl, rfl⟩)
    | (go_at_call 109; refine (hS _).mono ?_; rintro r w1 ⟨rfl, rfl⟩)
    | (go_at_call 50; refine (hP _).mono ?_; rintro r w1 ⟨rfl, hb1⟩; refine Hid.out ?_))
  refine Lib.hid ?_
  have r1 := (V5.new w 0 0 0 0 0).alloc (.cells #[.int .i64 n, .int .i64 tx, .int .i64 (t.size : Int), .int .i64 z, .int .i64 lv] 45) |>.below hb1
  have r2 := (V5.new (w.alloc (.cells #[.int .i64 0, .int .i64 0, .int .i64 0, .int .i64 0, .int .i64 0] 45)) n tx (t.size : Int) z lv).below hb1
  rw [World.size_alloc] at r2
  have BB := bel_then hbel hb1
  have r3 := r1.put (u0 := n) (u1 := tx) (u2 := (t.size : Int)) (u3 := z) (u4 := lv)
  have B3 := ((((BB.setCell (p := ⟨w.heap.size, 0, none⟩) (Nat.le_refl _) (.int .i64 n)).setCell (p := ⟨w.heap.size, 1, none⟩) (Nat.le_refl _) (.int .i64 tx)).setCell (p := ⟨w.heap.size, 2, none⟩) (Nat.le_refl _) (.int .i64 (t.size : Int))).setCell (p := ⟨w.heap.size, 3, none⟩) (Nat.le_refl _) (.int .i64 z)).setCell (p := ⟨w.heap.size, 4, none⟩) (Nat.le_refl _) (.int .i64 lv)
  obtain ⟨v0, v1, v2, v3, v4⟩ := r1.cells
  obtain ⟨f0, f1, f2, f3, f4⟩ := r1.fro
  obtain ⟨y0, y1, y2, y3, y4⟩ := r2.cells
  clear hbel hb1 hB hS hP
  go_wp2_with fail
  obtain ⟨q0, q1, q2, q3, q4⟩ := r3.cells
  exact bodyPost_ret (v := .tuple #[.agg #[.int .i64 n, .int .i64 tx, .int .i64 (t.size : Int), .int .i64 z, .int .i64 lv], .bool true]) (by simp [results, Try.f95, go_sem, q0, q1, q2, q3, q4]) rfl ⟨rfl, B3⟩
set_option maxHeartbeats 2000000 in
theorem impl_ptrof (n tx lv : Int) (t : ByteArray) (w : World) (hn : 8 ≤ n ∧ n ≤ 63) (ht : 1 ≤ tx ∧ tx ≤ 900) (hl : 0 ≤ lv ∧ lv ≤ 2) (hb : blockB t) :
    Calls Try.prog 100 #[.int .i64 n, .int .i64 tx, .int .i64 lv, .string t] w fun r w' => r = .returned (.tuple #[.agg #[.int .i64 n, .int .i64 tx, .int .i64 (t.size : Int), .int .i64 (sumT t.data.toList), .int .i64 lv], .bool true]) ∧ Below w.heap.size w w' := by
  have hsz : t.size ≤ maxLen := by have := hb.2; unfold maxLen; omega
  have hB := fun w => impl_block t w
  rw [decide_eq_true hb] at hB
  have hS := fun w => impl_sum t w hsz
  have hP : ∀ W, Calls Try.prog 57 #[.agg #[.int .i64 n, .int .i64 tx, .int .i64 (t.size : Int), .int .i64 (sumT t.data.toList), .int .i64 lv]] W fun r w' => r = .returned (.bool true) ∧ Below W.heap.size W w' := fun W => (m_ok _ _ _ _ _ W).mono fun r w' ⟨h1, h2⟩ => ⟨by rw [h1, ptr_made hn ht hl hb], by subst h2; first | exact bel_new (bel_new (Below.refl _ _) _) _ | exact bel_new (Below.refl _ _) _⟩
  have h128 := hb.2
  generalize sumT t.data.toList = z at *
  clear hn ht hl hb hsz
  have hbel : Below w.heap.size w ((w.alloc (.cells #[.int .i64 0, .int .i64 0, .int .i64 0, .int .i64 0, .int .i64 0] 45)).alloc (.cells #[.int .i64 n, .int .i64 tx, .int .i64 (t.size : Int), .int .i64 z, .int .i64 lv] 45)) := bel_new (bel_new (Below.refl _ _) _) _
  go_enter Try.func100, Try.ntmps100
  go_wp2_with (first
    | (go_at_call 62; refine (hB _).mono ?_; rintro r w1 ⟨rfl, rfl⟩)
    | (go_at_call 110; refine (hS _).mono ?_; rintro r w1 ⟨rfl, rfl⟩)
    | (go_at_call 57; refine (hP _).mono ?_; rintro r w1 ⟨rfl, hb1⟩; refine Hid.out ?_))
  refine Lib.hid ?_
  have r1 := (V5.new w 0 0 0 0 0).alloc (.cells #[.int .i64 n, .int .i64 tx, .int .i64 (t.size : Int), .int .i64 z, .int .i64 lv] 45) |>.below hb1
  have r2 := (V5.new (w.alloc (.cells #[.int .i64 0, .int .i64 0, .int .i64 0, .int .i64 0, .int .i64 0] 45)) n tx (t.size : Int) z lv).below hb1
  rw [World.size_alloc] at r2
  have BB := bel_then hbel hb1
  have r3 := r1.put (u0 := n) (u1 := tx) (u2 := (t.size : Int)) (u3 := z) (u4 := lv)
  have B3 := ((((BB.setCell (p := ⟨w.heap.size, 0, none⟩) (Nat.le_refl _) (.int .i64 n)).setCell (p := ⟨w.heap.size, 1, none⟩) (Nat.le_refl _) (.int .i64 tx)).setCell (p := ⟨w.heap.size, 2, none⟩) (Nat.le_refl _) (.int .i64 (t.size : Int))).setCell (p := ⟨w.heap.size, 3, none⟩) (Nat.le_refl _) (.int .i64 z)).setCell (p := ⟨w.heap.size, 4, none⟩) (Nat.le_refl _) (.int .i64 lv)
  obtain ⟨v0, v1, v2, v3, v4⟩ := r1.cells
  obtain ⟨f0, f1, f2, f3, f4⟩ := r1.fro
  obtain ⟨y0, y1, y2, y3, y4⟩ := r2.cells
  clear hbel hb1 hB hS hP
  go_wp2_with fail
  obtain ⟨q0, q1, q2, q3, q4⟩ := r3.cells
  exact bodyPost_ret (v := .tuple #[.agg #[.int .i64 n, .int .i64 tx, .int .i64 (t.size : Int), .int .i64 z, .int .i64 lv], .bool true]) (by simp [results, Try.f100, go_sem, q0, q1, q2, q3, q4]) rfl ⟨rfl, B3⟩

/-- The row is returned. -/
theorem row_like {s : St} {t : ByteArray} {lv : Int} (h1 : s.same = true) (h2 : lv = 0) (h3 : 0 ≤ likeK s t 8 56) : rowW s t lv = likeK s t 8 56 := if_pos ⟨h1, h2, h3⟩
theorem row_find {s : St} {t : ByteArray} {lv : Int} (h : ¬ (s.same = true ∧ lv = 0 ∧ 0 ≤ likeK s t 8 56)) : rowW s t lv = findA s := if_neg h
set_option maxRecDepth 100000 in
set_option maxHeartbeats 4000000 in
theorem impl_rowfor (x : SA) (s : St) (t : ByteArray) (lv : Int) (w : World) (hs : SBulk s) (hok : StOk s) (hb : blockB t) (hA : StAt w x s) :
    Calls Try.prog 97 #[(.agg #[.slice x.A s.rows.length x.a, .slice x.R s.sp.refs.length x.r, .slice x.L s.sp.last.length x.l, .int .i64 s.txg, .slice x.G s.gone.length x.g, .int .i64 s.keep, .slice x.D s.dead.length x.d, .bool s.same]), .string t, .int .i64 lv] w fun r w' => r = .returned (.int .i64 (rowW s t lv)) ∧ Below w.heap.size w w' := by
  have a0 := B8.new w 28 (.slice x.A s.rows.length x.a) (.slice x.R s.sp.refs.length x.r) (.slice x.L s.sp.last.length x.l) (.int .i64 s.txg) (.slice x.G s.gone.length x.g) (.int .i64 s.keep) (.slice x.D s.dead.length x.d) (.bool s.same)
  have B0 := bel_new (Below.refl w.heap.size w) (.cells #[.slice x.A s.rows.length x.a, .slice x.R s.sp.refs.length x.r, .slice x.L s.sp.last.length x.l, .int .i64 s.txg, .slice x.G s.gone.length x.g, .int .i64 s.keep, .slice x.D s.dead.length x.d, .bool s.same] 28)
  have hL := impl_rowwith x s t _ hok hs.texts (hA.below B0)
  rw [like_all hok hb.1] at hL
  have hF := fun W (hW : Below w.heap.size w W) => impl_find x.R x.L none x.r x.l 0 s.sp 8 [] W hs.refs hs.last (by simp) (hA.sp.below hW) (Lies.nil _ _)
  rw [find_eq hok] at hF
  have hrg := like_range s t 56 8
  have hyes := fun h1 h2 h3 => row_like (s := s) (t := t) (lv := lv) h1 h2 h3
  have hno := fun h => row_find (s := s) (t := t) (lv := lv) h
  obtain ⟨k, hk⟩ : ∃ k, k = likeK s t 8 56 := ⟨_, rfl⟩
  obtain ⟨f, hf⟩ : ∃ f, f = findA s := ⟨_, rfl⟩
  obtain ⟨q, hq⟩ : ∃ q, q = rowW s t lv := ⟨_, rfl⟩
  rw [← hq]
  simp only [← hk, ← hf, ← hq] at hL hF hrg hyes hno
  simp only [List.length_nil] at hF
  clear hs hok hb hA hk hf hq
  cases hsm : s.same with
  | false =>
    have HQ := Lib.hid (hno (fun h => by rw [hsm] at h; cases h.1))
    rw [hsm] at a0 B0
    obtain ⟨x0, x1, x2, x3, x4, x5, x6, x7⟩ := a0.cells
    have L := hF _ B0
    clear hyes hno hrg hsm
    go_enter Try.func97, Try.ntmps97
    go_wp2_with (go_at_call 113; refine L.mono ?_; rintro r w1 ⟨rfl, hb1⟩)
    go_ret
    exact ⟨by rw [HQ.out]; rfl, bel_then B0 hb1⟩
  | true =>
    rw [hsm] at a0 B0 hL
    by_cases hlv : lv = 0
    · have hl0 : (lv == 0) = true := by simpa using hlv
      by_cases hk1 : k = -1
      · have HQ := Lib.hid (hno (fun h => by omega))
        have hkb : (k != -1) = false := by simpa using hk1
        clear hyes hno hrg hsm hlv hk1
        obtain ⟨x0, x1, x2, x3, x4, x5, x6, x7⟩ := a0.cells
        go_enter Try.func97, Try.ntmps97
        go_wp2_with (go_at_call 112; refine hL.mono ?_; rintro r w1 ⟨rfl, hb1⟩; refine Hid.out ?_)
        refine Lib.hid ?_
        clear x0 x1 x2 x3 x4 x5 x6 x7 hL
        have a1 := a0.below hb1
        have B1 := bel_then B0 hb1
        obtain ⟨x0, x1, x2, x3, x4, x5, x6, x7⟩ := a1.cells
        have L := hF _ B1
        go_wp2_with (go_at_call 113; refine L.mono ?_; rintro r w2 ⟨rfl, hb2⟩)
        go_ret
        exact ⟨by rw [HQ.out]; rfl, bel_then B1 hb2⟩
      · have hk0 : 0 ≤ k := by
          rcases hrg with h | ⟨j, h, _⟩
          · exact absurd h hk1
          · omega
        have HQ := Lib.hid (hyes hsm hlv hk0)
        have hkb : (k != -1) = true := by simpa using hk1
        clear hyes hno hrg hsm hlv hk1 hk0
        obtain ⟨x0, x1, x2, x3, x4, x5, x6, x7⟩ := a0.cells
        go_enter Try.func97, Try.ntmps97
        go_wp2_with (go_at_call 112; refine hL.mono ?_; rintro r w1 ⟨rfl, hb1⟩)
        go_ret
        exact ⟨by rw [HQ.out]; rfl, bel_then B0 hb1⟩
    · have hl0 : (lv == 0) = false := by simpa using hlv
      have HQ := Lib.hid (hno (fun h => hlv h.2.1))
      obtain ⟨x0, x1, x2, x3, x4, x5, x6, x7⟩ := a0.cells
      have L := hF _ B0
      clear hyes hno hrg hsm hlv
      go_enter Try.func97, Try.ntmps97
      go_wp2_with (go_at_call 113; refine L.mono ?_; rintro r w1 ⟨rfl, hb1⟩)
      go_ret
      exact ⟨by rw [HQ.out]; rfl, bel_then B0 hb1⟩
end Go.Proofs.Ytmnamclndpfjnaa
