/-
  What FnSpaceFind draws.
-/
import Derived.Test.YtlmemjfinpccoaaDrO
namespace Go.Proofs.Ytlmemjfinpccoaa
open Go.RowKit

structure FI (w0 w : World) (B : Nat) (A : Option Addr) (m cap lim base g : Nat) (A1 A2 : Option Addr) (c1 c2 : Nat) (s : Sp) (v : Value) (xs : List Int) (W : World) : Prop where
  rd : Rd2 w0 w B A m cap lim W
  sp : SpD B A1 A2 s W
  box : B2 W g 24 (.slice A1 s.refs.length c1) (.slice A2 s.last.length c2)
  own : W.ownsRow base 3 1 v xs.length (intCells xs)
  lo : B < base ∧ w.heap.size < base ∧ g < base ∧ w0.heap.size ≤ base ∧ base ≤ W.heap.size ∧ B ≠ g ∧ w.heap.size < g
  a1 : ∀ b o, A1 = some ⟨b, o, none⟩ → b < base
  a2 : ∀ b o, A2 = some ⟨b, o, none⟩ → b < base
section
variable {w0 w W W' : World} {B : Nat} {A A1 A2 : Option Addr} {m cap lim base g c1 c2 : Nat} {s : Sp} {v v' : Value} {xs : List Int}
theorem own_from {n : Nat} {ys : List Value} (h : W.ownsRow base 3 1 v n ys) : ∀ k, v.ownBlock = some k → base ≤ k := fun k hk => (h.lt k hk).1
theorem FI.row (h : FI w0 w B A m cap lim base g A1 A2 c1 c2 s v xs W) (hl : lim ≤ 10000) :
    Calls Try.prog 79 #[.pointer (some ⟨B, 0, none⟩)] W fun r W' => ∃ x : Int, -1 ≤ x ∧ x ≤ 64 ∧ r = .returned (.int .i64 x) ∧ FI w0 w B A m cap (lim + 2) base g A1 A2 c1 c2 s v xs W' := by
  refine (h.rd.row (by omega)).mono fun r W' ⟨x, x0, x1, e, hr, hg⟩ => ⟨x, x0, x1, e, hr, h.sp.grown hg, h.box.grown hg (by simp; have := h.lo; omega), h.own.kept hg (.inr fun e => ?_), ⟨h.lo.1, h.lo.2.1, h.lo.2.2.1, h.lo.2.2.2.1, Nat.le_trans h.lo.2.2.2.2.1 hg.size, h.lo.2.2.2.2.2⟩, h.a1, h.a2⟩
  have := own_from h.own B e
  have := h.lo
  omega
theorem FI.pick (h : FI w0 w B A m cap lim base g A1 A2 c1 c2 s v xs W) (hl : lim ≤ 10000) (n : Int) (h1 : 1 ≤ n) (h2 : n ≤ 1000) :
    Calls Try.prog 78 #[.pointer (some ⟨B, 0, none⟩), .int .i64 n] W fun r W' => ∃ x : Int, 0 ≤ x ∧ x < n ∧ r = .returned (.int .i64 x) ∧ FI w0 w B A m cap (lim + 1) base g A1 A2 c1 c2 s v xs W' := by
  refine (h.rd.pick (by omega) n h1 h2).mono fun r W' ⟨x, x0, x1, e, hr, hg⟩ => ⟨x, x0, x1, e, hr, h.sp.grown hg, h.box.grown hg (by simp; have := h.lo; omega), h.own.kept hg (.inr fun e => ?_), ⟨h.lo.1, h.lo.2.1, h.lo.2.2.1, h.lo.2.2.2.1, Nat.le_trans h.lo.2.2.2.2.1 hg.size, h.lo.2.2.2.2.2⟩, h.a1, h.a2⟩
  have := own_from h.own B e
  have := h.lo
  omega
theorem FI.alloc (h : FI w0 w B A m cap lim base g A1 A2 c1 c2 s v xs W) (o : Obj) : FI w0 w B A m cap lim base g A1 A2 c1 c2 s v xs (W.alloc o) :=
  ⟨h.rd.alloc o, h.sp.alloc o, h.box.alloc o, h.own.alloc o, ⟨h.lo.1, h.lo.2.1, h.lo.2.2.1, h.lo.2.2.2.1, by rw [World.size_alloc]; have := h.lo; omega, h.lo.2.2.2.2.2⟩, h.a1, h.a2⟩
theorem FI.drew (h : FI w0 w B A m cap lim base g A1 A2 c1 c2 s v xs W) : FI w0 w B A m cap lim base g A1 A2 c1 c2 s v xs W.drew :=
  ⟨h.rd.drew, h.sp.drew, h.box.drew, h.own, h.lo, h.a1, h.a2⟩
theorem FI.mono (h : FI w0 w B A m cap lim base g A1 A2 c1 c2 s v xs W) {l2 : Nat} (hl : lim ≤ l2) : FI w0 w B A m cap l2 base g A1 A2 c1 c2 s v xs W := by
  obtain ⟨k, hk, hr⟩ := h.rd.rd
  exact ⟨⟨⟨k, by omega, hr⟩, h.rd.out, h.rd.bel, h.rd.top⟩, h.sp, h.box, h.own, h.lo, h.a1, h.a2⟩
theorem FI.append (h : FI w0 w B A m cap lim base g A1 A2 c1 c2 s v xs W) {x : Int} (hg : W.grownBy W' v.ownBlock) (ho : W'.ownsRow base 3 1 v' (xs.length + 1) (intCells xs ++ [.int .i64 x])) : FI w0 w B A m cap lim base g A1 A2 c1 c2 s v' (xs ++ [x]) W' := by
  obtain ⟨k, hk, hr⟩ := h.rd.rd
  have hf := own_from h.own
  have hlo := h.lo
  have hlies : ∀ {D : Option Addr} {ys : List Value}, Lies W D ys → (∀ b o, D = some ⟨b, o, none⟩ → b < base) → Lies W' D ys := fun h1 h2 h0 => by
    obtain ⟨b, off, e, hlt, hc⟩ := h1 h0
    refine ⟨b, off, e, Nat.lt_of_lt_of_le hlt hg.size, fun j u hj => (World.cell?_of_block (a := ⟨b, off + j, none⟩) (hg.block b hlt fun e2 => ?_)).trans (hc j u hj)⟩
    have := hf b e2.symm
    have := h2 b off e
    omega
  refine ⟨⟨⟨k, hk, hr.kept hg fun j e => ⟨?_, ?_⟩⟩, h.rd.out.grown hg fun e => ?_, h.rd.bel.grown hg h.rd.bel.size fun j e => ?_, h.rd.top⟩, ⟨⟨hlies h.sp.at_.1 h.a1, hlies h.sp.at_.2 h.a2⟩, h.sp.l1, h.sp.l2, h.sp.n1, h.sp.n2⟩, h.box.grown hg fun e => ?_, ?_, ⟨hlo.1, hlo.2.1, hlo.2.2.1, hlo.2.2.2.1, Nat.le_trans hlo.2.2.2.2.1 hg.size, hlo.2.2.2.2.2⟩, h.a1, h.a2⟩
  · have := hf j e; omega
  · have := hf j e; omega
  · have := hf _ e.symm; omega
  · have := hf j e; omega
  · have := hf _ e.symm; omega
  · have he : intCells (xs ++ [x]) = intCells xs ++ [.int .i64 x] := by simp [intCells]
    rw [he, List.length_append]
    exact ho
/-- What is drawn for a search. -/
def DrS3 (w : World) (r : Ending) (w' : World) : Prop :=
  ∃ A1 c1 A2 c2 s C c but, ∃ n : Int, -1 ≤ n ∧ n ≤ 64 ∧ r = .returned (.tuple #[.agg #[.slice A1 s.refs.length c1, .slice A2 s.last.length c2], .int .i64 n, .slice C but.length c]) ∧ SpAt w' A1 A2 s ∧ Lies w' C (intCells but) ∧ s.refs.length ≤ 100 ∧ s.last.length ≤ 100 ∧ but.length ≤ 5 ∧ Below w.heap.size w w'
theorem FI.fin (h : FI w0 w B A m cap lim base g A1 A2 c1 c2 s v xs W) {n : Int} (n0 : -1 ≤ n) (n1 : n ≤ 64) (hx : xs.length ≤ 5) (a b : Value) :
    DrS3 w (.returned (.tuple #[.agg #[.slice A1 s.refs.length c1, .slice A2 s.last.length c2], .int .i64 n, v])) ((W.setCell ⟨w.heap.size, 0, none⟩ a).setCell ⟨w.heap.size, 1, none⟩ b) := by
  obtain ⟨C, c, rfl, hC⟩ := own_lies (own_set (own_set h.own (p := ⟨w.heap.size, 0, none⟩) h.lo.2.1 a) (p := ⟨w.heap.size, 1, none⟩) h.lo.2.1 b)
  exact ⟨A1, c1, A2, c2, s, C, c, xs, n, n0, n1, rfl, h.sp.put h.rd.out _ _, hC, h.sp.l1.2, h.sp.l2.2, hx, h.rd.put _ _⟩
end
theorem own_none (w : World) : (w.alloc (.cells #[] 3)).ownsRow w.heap.size 3 1 (.slice (some ⟨w.heap.size, 0, none⟩) 0 0) 0 [] :=
  ⟨rfl, .inr ⟨_, 0, #[], rfl, Nat.le_refl _, heap_alloc_new w _, Nat.le_refl _, by unfold maxLen; omega, rfl, rfl⟩⟩
theorem lies_lt {W : World} {A : Option Addr} {xs : List Value} (h : Lies W A xs) (h0 : 0 < xs.length) : ∀ b o, A = some ⟨b, o, none⟩ → b < W.heap.size := fun b o e => by
  obtain ⟨b', o', e', hlt, _⟩ := h h0
  rw [e] at e'
  cases e'
  exact hlt

set_option maxRecDepth 100000 in
set_option maxHeartbeats 8000000 in
theorem draw_find (A : Option Addr) (n cap : Nat) (w : World) (hn : n ≤ cap) (hA : BytesAt w A n) : Calls Try.prog 47 #[.slice A n cap] w (DrS3 w) := by
  have hO := open_rd A n cap (w.alloc (.cells #[.slice none 0 0, .slice none 0 0] 24)) hn (bytes_box hA _)
  obtain ⟨i0, hi, hz0, hz1, hz2⟩ := info_parts Try.info3
  go_enter Try.func47, Try.ntmps47
  go_wp2_with (go_at_call 76; refine hO.mono ?_; rintro r w1 ⟨A', m', cap', B, rfl, hr⟩; refine Hid.out ?_)
  refine Lib.hid ?_
  have h1 := rd2_new hr
  have hold := hr.old
  have K := h1.space (by omega)
  clear hr hO hA
  go_wp2_with (go_at_call 77; refine K.mono ?_; rintro r w2 ⟨A1, c1, A2, c2, s, rfl, h2, hs, g2⟩; refine Hid.out ?_)
  refine Lib.hid ?_
  have hlt2 := h2.lt
  have hb2 := h2.out.lt
  have h3 := h2.alloc (.cells #[.slice A1 s.refs.length c1, .slice A2 s.last.length c2] 24)
  have hs3 := hs.alloc (.cells #[.slice A1 s.refs.length c1, .slice A2 s.last.length c2] 24)
  have b3 := B2.new w2 24 (.slice A1 s.refs.length c1) (.slice A2 s.last.length c2)
  obtain ⟨w3, hw3⟩ : ∃ W, W = w2.alloc (.cells #[.slice A1 s.refs.length c1, .slice A2 s.last.length c2] 24) := ⟨_, rfl⟩
  have hsz : w3.heap.size = w2.heap.size + 1 := by rw [hw3, World.size_alloc]
  rw [← hw3] at h3 hs3 b3
  have F4 : FI (w.alloc (.cells #[.slice none 0 0, .slice none 0 0] 24)) w B A' m' cap' 100 w3.heap.size w2.heap.size A1 A2 c1 c2 s (.slice (some ⟨w3.heap.size, 0, none⟩) 0 0) [] (w3.alloc (.cells #[] 3)) :=
    ⟨h3.alloc _, hs3.alloc _, b3.alloc _, own_none w3, ⟨by omega, by omega, by omega, by have := g2.size; have := h1.lt; omega, by rw [World.size_alloc]; omega, by omega, hb2⟩, lies_lt hs3.at_.1 (by rw [intCells_len]; have := hs3.l1; omega), lies_lt hs3.at_.2 (by rw [intCells_len]; have := hs3.l2; omega)⟩
  rw [hsz] at F4
  subst hw3
  have K2 := F4.pick (by omega) 5 (by omega) (by omega)
  clear h1 h2 h3 hs hs3 b3 g2 hold hlt2 hb2 K hsz F4
  go_wp2_with (go_at_call 78; refine K2.mono ?_; rintro r w4 ⟨x, x0, x1, rfl, F5⟩; refine Hid.out ?_)
  refine Lib.hid ?_
  obtain ⟨kk, rfl⟩ : ∃ kk : Nat, x = (kk : Int) := ⟨x.toNat, by omega⟩
  have hkk : kk ≤ 4 := by omega
  obtain ⟨base, hbase⟩ : ∃ b, b = w2.heap.size + 1 := ⟨_, rfl⟩
  obtain ⟨g, hg⟩ : ∃ b, b = w2.heap.size := ⟨_, rfl⟩
  rw [← hbase, ← hg] at F5
  rw [← hbase, ← hg]
  clear hbase hg K2 x0 x1
  go_wp2_with fail
  go_loopw [7, 8] (fun v i wr => ∃ (k : Nat) (xs : List Int), k ≤ 4 ∧ i = .int .i64 k ∧ xs.length + k ≤ 4 ∧ FI (w.alloc (.cells #[.slice none 0 0, .slice none 0 0] 24)) w B A' m' cap' (101 + 2 * (4 - k)) base g A1 A2 c1 c2 s v xs wr) (fun _ i _ => (intOf i).toNat)
  case atStart => exact ⟨kk, [], hkk, rfl, by simp; omega, F5.mono (by omega)⟩
  case round =>
    clear F5 hkk
    obtain ⟨k, xs, hk, rfl, hlen, F⟩ := hrel
    by_cases h0 : k = 0
    · subst h0
      have F := F.mono (l2 := 110) (by omega)
      have F' := F.drew
      have hC := F'.row (by omega)
      obtain ⟨⟨za, zb⟩, _⟩ := F'.box.cells
      go_upto_region 8 with fail
      first
        | go_region_with (go_at_call 79; refine hC.mono ?_; rintro r w9 ⟨x, x0, x1, rfl, F9⟩; obtain ⟨⟨zc, zd⟩, _⟩ := F9.box.cells; obtain ⟨⟨o0, o1⟩, f0, f1⟩ := F9.rd.out.cells)
        | fail "region"
      all_goals go_wp2_with fail
      all_goals exact bodyPost_ret (v := .tuple #[.agg #[.slice A1 s.refs.length c1, .slice A2 s.last.length c2], .int .i64 x, _]) (by simp [results, Try.f47, go_sem, o0, o1]) rfl (F9.fin x0 x1 (by omega) _ _)
    · have hpos : (0 : Int) < (k : Int) := by omega
      have hK := F.row (by omega)
      go_wp2_with (go_at_call 79; refine hK.mono ?_; rintro r w5 ⟨x, x0, x1, rfl, F5⟩; refine Hid.out ?_)
      refine Lib.hid ?_
      have F6 := F5.alloc (.cells #[.int .i64 x] 3)
      have hlo := F5.lo
      go_wp2_with (at_builtin; refine wpList_append_own_at _ rfl _ _ 22 rfl base 3 i0 (.int .i64 0) 1 8 Try.underlying22 hi hz0 hz1 hz2 rfl (by decide) _ _ _ rfl F6.own ⟨w5.heap.size, 0, none⟩ 1 1 [.int .i64 x] rfl rfl (cell_one_new _ _ _) (by intro u hu; simp at hu; subst hu; rfl) (by unfold maxLen; omega) (by omega) (by rw [World.size_alloc]; omega) ?_; intro v' w7 hown' hgrow hnil hloc; have F7 := F6.append hgrow hown')
      go_roundw
      case rel => exact ⟨k - 1, xs ++ [x], by omega, by rw [show ((k - 1 : Nat) : Int) = (k : Int) - 1 by omega], by simp; omega, F7.mono (by omega)⟩
      case measure => simp [intOf]; omega
end Go.Proofs.Ytlmemjfinpccoaa
