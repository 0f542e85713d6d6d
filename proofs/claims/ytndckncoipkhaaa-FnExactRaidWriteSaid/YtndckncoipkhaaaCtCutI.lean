/-
  The program's columns of a block: a closure over the text tells each.
-/
import Derived.Test.YtndckncoipkhaaaCtMixW
namespace Go.Proofs.Ytndckncoipkhaaa.Cut
open Go.RowKit

def colN (k : Int) (n : Nat) : Nat := if k = 1 then n / 2 else half n
theorem col_size (k : Int) (n : Nat) (w : World) (hn : n ≤ 1048576) : Calls Try.prog 116 #[.int .i64 k, .int .i64 (n : Int)] w fun r w' => r = .returned (.int .i64 ((colN k n : Nat) : Int)) ∧ w' = w := by
  by_cases h1 : k = 1
  · subst h1
    have hd : (n : Int).tdiv 2 = ((n / 2 : Nat) : Int) := by rw [Int.tdiv_eq_ediv_of_nonneg (by omega)]; omega
    have hd2 : (n : Int) / 2 = ((n / 2 : Nat) : Int) := by omega
    have e : colN 1 n = n / 2 := rfl
    rw [e]
    obtain ⟨q, hq⟩ : ∃ q, q = n / 2 := ⟨_, rfl⟩
    rw [← hq] at hd hd2 ⊢
    clear hq e
    go_enter Try.func116, Try.ntmps116
    go_wp2
    go_ret
    exact ⟨rfl, rfl⟩
  · have hk : (k == 1) = false := by simpa using h1
    have hd : ((n : Int) + 1).tdiv 2 = ((half n : Nat) : Int) := by rw [Int.tdiv_eq_ediv_of_nonneg (by omega)]; unfold half; omega
    have hd2 : ((n : Int) + 1) / 2 = ((half n : Nat) : Int) := by unfold half; omega
    have hw := IntWalk.i64_in ((n : Int) + 1) (by omega)
    have e : colN k n = half n := if_neg h1
    rw [e]
    obtain ⟨q, hq⟩ : ∃ q, q = half n := ⟨_, rfl⟩
    rw [← hq] at hd hd2 ⊢
    clear hq e h1
    go_enter Try.func116, Try.ntmps116
    go_wp2
    go_ret
    exact ⟨rfl, rfl⟩

/-- The three columns, by their numbers. -/
def colT (l : List UInt8) (k : Int) : ByteArray := if k = 0 then strOf (colA l) else if k = 1 then strOf (colB l) else strOf (colP l)
/-- A closure over a text's columns. -/
def IsCut (W : World) (base : Nat) (F : Value) (l : List UInt8) : Prop :=
  ∃ a b c : Nat, F = .func (.func 117) #[] #[.pointer (some ⟨a, 0, none⟩), .pointer (some ⟨b, 0, none⟩), .pointer (some ⟨c, 0, none⟩)] ∧ (base ≤ a ∧ base ≤ b ∧ base ≤ c) ∧ a < W.heap.size ∧ b < W.heap.size ∧ c < W.heap.size ∧
    W.cell? ⟨a, 0, none⟩ = some (.string (strOf (colA l))) ∧ W.cell? ⟨b, 0, none⟩ = some (.string (strOf (colB l))) ∧ W.cell? ⟨c, 0, none⟩ = some (.int .i64 ((half l.length : Nat) : Int))
theorem IsCut.below {W W' : World} {base : Nat} {F : Value} {l : List UInt8} (h : IsCut W base F l) (hb : Below W.heap.size W W') : IsCut W' base F l := by
  obtain ⟨a, b, c, rfl, h0, h1, h2, h3, e1, e2, e3⟩ := h
  have hz := hb.size
  exact ⟨a, b, c, rfl, h0, by omega, by omega, by omega, (hb.cell (p := ⟨a, 0, none⟩) h1).trans e1, (hb.cell (p := ⟨b, 0, none⟩) h2).trans e2, (hb.cell (p := ⟨c, 0, none⟩) h3).trans e3⟩
theorem IsCut.grown {W W' : World} {base g : Nat} {F : Value} {l : List UInt8} (h : IsCut W base F l) (hg : W.grownBy W' (some g)) (hb : g < base) : IsCut W' base F l := by
  obtain ⟨a, b, c, rfl, h0, h1, h2, h3, e1, e2, e3⟩ := h
  have hz := hg.size
  have ne : ∀ x, base ≤ x → some x ≠ some g := fun x hx e => by injection e with e; omega
  exact ⟨a, b, c, rfl, h0, by omega, by omega, by omega, (World.cell?_of_block (a := ⟨a, 0, none⟩) (hg.block a h1 (ne a h0.1))).trans e1, (World.cell?_of_block (a := ⟨b, 0, none⟩) (hg.block b h2 (ne b h0.2.1))).trans e2, (World.cell?_of_block (a := ⟨c, 0, none⟩) (hg.block c h3 (ne c h0.2.2))).trans e3⟩
def CutPost (l : List UInt8) (w : World) (r : Ending) (w' : World) : Prop := ∃ F, r = .returned F ∧ IsCut w' w.heap.size F l ∧ Below w.heap.size w w'

theorem three_cells (w : World) (u v x : Value) (t1 t2 t3 : TypeId) :
    (((w.alloc (.cells #[u] t1)).alloc (.cells #[v] t2)).alloc (.cells #[x] t3)).cell? ⟨w.heap.size, 0, none⟩ = some u ∧
    (((w.alloc (.cells #[u] t1)).alloc (.cells #[v] t2)).alloc (.cells #[x] t3)).cell? ⟨w.heap.size + 1, 0, none⟩ = some v ∧
    (((w.alloc (.cells #[u] t1)).alloc (.cells #[v] t2)).alloc (.cells #[x] t3)).cell? ⟨w.heap.size + 1 + 1, 0, none⟩ = some x ∧
    (((w.alloc (.cells #[u] t1)).alloc (.cells #[v] t2)).alloc (.cells #[x] t3)).heap.size = w.heap.size + 3 ∧
    Below w.heap.size w (((w.alloc (.cells #[u] t1)).alloc (.cells #[v] t2)).alloc (.cells #[x] t3)) := by
  obtain ⟨w1, h1⟩ : ∃ x, x = w.alloc (.cells #[u] t1) := ⟨_, rfl⟩
  have z1 : w1.heap.size = w.heap.size + 1 := by rw [h1, World.size_alloc]
  have c1 : w1.cell? ⟨w.heap.size, 0, none⟩ = some u := by rw [h1, World.cell?_alloc_mark]; rfl
  have b1 : Below w.heap.size w w1 := by rw [h1]; exact bel_new (Below.refl _ _) _
  rw [← h1]
  obtain ⟨w2, h2⟩ : ∃ x, x = w1.alloc (.cells #[v] t2) := ⟨_, rfl⟩
  have z2 : w2.heap.size = w1.heap.size + 1 := by rw [h2, World.size_alloc]
  have c2 : w2.cell? ⟨w1.heap.size, 0, none⟩ = some v := by rw [h2, World.cell?_alloc_mark]; rfl
  have b2 : Below w1.heap.size w1 w2 := by rw [h2]; exact bel_new (Below.refl _ _) _
  rw [← h2]
  obtain ⟨w3, h3⟩ : ∃ y, y = w2.alloc (.cells #[x] t3) := ⟨_, rfl⟩
  have z3 : w3.heap.size = w2.heap.size + 1 := by rw [h3, World.size_alloc]
  have c3 : w3.cell? ⟨w2.heap.size, 0, none⟩ = some x := by rw [h3, World.cell?_alloc_mark]; rfl
  have b3 : Below w2.heap.size w2 w3 := by rw [h3]; exact bel_new (Below.refl _ _) _
  rw [← h3]
  refine ⟨?_, ?_, ?_, by omega, bel_then (bel_then b1 b2) b3⟩
  · exact ((bel_then b2 b3).cell (p := ⟨w.heap.size, 0, none⟩) (by show w.heap.size < _; omega)).trans c1
  · rw [← z1]
    exact (b3.cell (p := ⟨w1.heap.size, 0, none⟩) (by show w1.heap.size < _; omega)).trans c2
  · rw [← z1, ← z2]
    exact c3
theorem cut_a (w : World) (l : List UInt8) (W : World) (hb : Below (((w.alloc (.cells #[.int .i64 ((half l.length : Nat) : Int)] 3)).alloc (.cells #[.string (strOf (colA l))] 9)).alloc (.cells #[.string (strOf (colB l))] 9)).heap.size (((w.alloc (.cells #[.int .i64 ((half l.length : Nat) : Int)] 3)).alloc (.cells #[.string (strOf (colA l))] 9)).alloc (.cells #[.string (strOf (colB l))] 9)) W) :
    CutPost l w (.returned (.func (.func 117) #[] #[.pointer (some ⟨w.heap.size + 1, 0, none⟩), .pointer (some ⟨w.heap.size + 1 + 1, 0, none⟩), .pointer (some ⟨w.heap.size, 0, none⟩)])) W := by
  obtain ⟨h1, h2, h3, h4, h5⟩ := three_cells w (.int .i64 ((half l.length : Nat) : Int)) (.string (strOf (colA l))) (.string (strOf (colB l))) 3 9 9
  exact ⟨_, rfl, IsCut.below ⟨_, _, _, rfl, ⟨by omega, by omega, by omega⟩, by omega, by omega, by omega, h2, h3, h1⟩ hb, bel_then h5 hb⟩
theorem cut_b (w : World) (l : List UInt8) (W : World) (hb : Below (((w.alloc (.cells #[.int .i64 ((half l.length : Nat) : Int)] 3)).alloc (.cells #[.string (strOf (colB l))] 9)).alloc (.cells #[.string (strOf (colA l))] 9)).heap.size (((w.alloc (.cells #[.int .i64 ((half l.length : Nat) : Int)] 3)).alloc (.cells #[.string (strOf (colB l))] 9)).alloc (.cells #[.string (strOf (colA l))] 9)) W) :
    CutPost l w (.returned (.func (.func 117) #[] #[.pointer (some ⟨w.heap.size + 1 + 1, 0, none⟩), .pointer (some ⟨w.heap.size + 1, 0, none⟩), .pointer (some ⟨w.heap.size, 0, none⟩)])) W := by
  obtain ⟨h1, h2, h3, h4, h5⟩ := three_cells w (.int .i64 ((half l.length : Nat) : Int)) (.string (strOf (colB l))) (.string (strOf (colA l))) 3 9 9
  exact ⟨_, rfl, IsCut.below ⟨_, _, _, rfl, ⟨by omega, by omega, by omega⟩, by omega, by omega, by omega, h3, h2, h1⟩ hb, bel_then h5 hb⟩

set_option maxRecDepth 100000 in
set_option maxHeartbeats 2000000 in
theorem cutter_any (t : ByteArray) (w : World) (h : t.size ≤ 128) : Calls Try.prog 92 #[.string t] w (CutPost t.data.toList w) := by
  have hF := col_size 0 t.size
  have e0 : colN 0 t.size = half t.size := rfl
  have hh := half_le t.size
  have hln : t.data.toList.length = t.size := by rw [Array.length_toList]; rfl
  have e1 : t.extract 0 (half t.size) = strOf (colA t.data.toList) := by
    apply bytes_inj
    rw [strOf_toList, ext_head, ← hln]; rfl
  have e2 : t.extract (half t.size) t.size = strOf (colB t.data.toList) := by
    apply bytes_inj
    rw [strOf_toList, ext_list, ← hln]; rfl
  rw [e0] at hF
  have hmf : ∀ (fn : Fn) (first cap : Array Value) (w : World), (Instr.makeFunc fn first cap).run Try.prog w = .ok (.func fn first cap) w := fun _ _ _ _ => rfl
  have hlh : half t.data.toList.length = half t.size := by rw [hln]
  obtain ⟨H, hH⟩ : ∃ H, H = half t.size := ⟨_, rfl⟩
  rw [← hH] at hF hh e1 e2 hlh
  have hH1 : (H : Int) ≤ (t.size : Int) := by omega
  have E1 := Lib.hid e1
  have E2 := Lib.hid e2
  have E3 := Lib.hid hlh
  clear hH e0 hln e1 e2 hlh
  go_enter Try.func92, Try.ntmps92
  go_wp2_with (go_at_call 116; refine (hF _ (by omega)).mono ?_; rintro r w' ⟨rfl, rfl⟩)
  go_region_with (fail)
  all_goals go_wp2_with fail
  all_goals go_ret
  all_goals rw [E1.out, E2.out, ← E3.out]
  all_goals first
    | exact cut_a w' t.data.toList _ ((Below.refl _ _).drew)
    | exact cut_b w' t.data.toList _ ((Below.refl _ _).drew)
    | exact cut_a w' t.data.toList _ (Below.refl _ _)
    | exact cut_b w' t.data.toList _ (Below.refl _ _)

set_option maxRecDepth 100000 in
set_option maxHeartbeats 2000000 in
theorem cut_col (l : List UInt8) (k : Int) (a b c : Nat) (w : World) (hl : l.length ≤ 128)
    (e1 : w.cell? ⟨a, 0, none⟩ = some (.string (strOf (colA l)))) (e2 : w.cell? ⟨b, 0, none⟩ = some (.string (strOf (colB l)))) (e3 : w.cell? ⟨c, 0, none⟩ = some (.int .i64 ((half l.length : Nat) : Int))) :
    Calls Try.prog 117 #[.int .i64 k, .pointer (some ⟨a, 0, none⟩), .pointer (some ⟨b, 0, none⟩), .pointer (some ⟨c, 0, none⟩)] w fun r w' => r = .returned (.string (colT l k)) ∧ Below w.heap.size w w' := by
  have hh := half_le l.length
  have hM := impl_mixed (strOf (colA l)) (strOf (colB l)) (half l.length) w (by omega) (by rw [strOf_size, colA_len]; unfold maxLen; omega) (by rw [strOf_size, colB_len]; unfold maxLen; omega)
  rw [strOf_toList, strOf_toList] at hM
  have hp : strOf (mixL (colA l) (colB l) (half l.length)) = strOf (colP l) := rfl
  rw [hp] at hM
  unfold colT
  obtain ⟨x, hx⟩ : ∃ x, x = strOf (colA l) := ⟨_, rfl⟩
  obtain ⟨y, hy⟩ : ∃ x, x = strOf (colB l) := ⟨_, rfl⟩
  obtain ⟨z, hz⟩ : ∃ x, x = strOf (colP l) := ⟨_, rfl⟩
  obtain ⟨h, hhe⟩ : ∃ x, x = half l.length := ⟨_, rfl⟩
  rw [← hx] at e1
  rw [← hy] at e2
  rw [← hhe] at e3
  simp only [← hx, ← hy, ← hz, ← hhe] at hM ⊢
  clear hx hy hz hhe hh hp
  by_cases h0 : k = 0
  · rw [if_pos h0]
    subst h0
    clear hM
    go_enter Try.func117, Try.ntmps117
    go_wp2
    go_ret
    exact ⟨rfl, Below.refl _ _⟩
  · rw [if_neg h0]
    have hk0 : (k == 0) = false := by simpa using h0
    by_cases h1 : k = 1
    · rw [if_pos h1]
      subst h1
      clear hM h0
      go_enter Try.func117, Try.ntmps117
      go_wp2
      go_ret
      exact ⟨rfl, Below.refl _ _⟩
    · rw [if_neg h1]
      have hk1 : (k == 1) = false := by simpa using h1
      clear h0 h1
      go_enter Try.func117, Try.ntmps117
      go_wp2_with (go_at_call 118; refine hM.mono ?_; rintro r w' ⟨rfl, hb⟩)
      go_ret
      exact ⟨rfl, hb⟩
end Go.Proofs.Ytndckncoipkhaaa.Cut
