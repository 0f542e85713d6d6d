/-
  What FnSpaceOf and FnSpaceJoin draw: some list of at most eight pointers.
-/
import Derived.Test.YtlmemjfinpccoaaDrP
import Derived.Test.YtlmemjfinpccoaaOfS
namespace Go.Proofs.Ytlmemjfinpccoaa
open Go.RowKit
set_option linter.unusedVariables false

theorem rd_not_rowP {w0 w : World} {B : Nat} {A : Option Addr} {m cap p base n : Nat} {v : Value} {xs : List Value} (h : IsRd w0 w B A m cap p) (ho : w.ownsRow base 65 5 v n xs) : v.ownBlock ≠ some B := by
  rcases ho.2 with ⟨rfl, _⟩ | ⟨g, c, cur, rfl, _, hg, _⟩
  · simp [Value.ownBlock]
  · intro e
    simp only [Value.ownBlock, Option.some.injEq] at e
    subst e
    have := hg.symm.trans h.blk
    simp at this
theorem own_pastP {w0 w w' : World} {B : Nat} {A : Option Addr} {m cap p base n : Nat} {v : Value} {xs : List Value} (h : IsRd w0 w B A m cap p) (ho : w.ownsRow base 65 5 v n xs) (hg : w.grownBy w' (some B)) : w'.ownsRow base 65 5 v n xs :=
  ho.kept hg (.inr (rd_not_rowP h ho))
theorem IsRd.grownP {w0 w w' : World} {B : Nat} {A : Option Addr} {m cap p base n : Nat} {v : Value} {xs : List Value} (h : IsRd w0 w B A m cap p) (ho : w.ownsRow base 65 5 v n xs) (hb : w0.heap.size ≤ base) (hg : w.grownBy w' v.ownBlock) : IsRd w0 w' B A m cap p :=
  ⟨(hg.block B h.lt (rd_not_rowP h ho).symm).trans h.blk, h.bts, h.old, h.bel.grown hg h.bel.size (fun k e => Nat.le_trans hb (ho.lt k e).1), h.few⟩
theorem own_formP {W : World} {base n : Nat} {v : Value} {xs : List Value} (h : W.ownsRow base 65 5 v n xs) (hn : 0 < n) : ∃ g cap, v = .slice (some ⟨g, 0, none⟩) n cap := by
  rcases h.2 with ⟨_, h0⟩ | ⟨g, cap, _, rfl, _⟩
  · omega
  · exact ⟨g, cap, rfl⟩
theorem flat_snoc (ps : List P5) (a b c d e : Int) : flat (ps ++ [⟨a, b, c, d, e⟩]) = flat ps ++ [.int .i64 a, .int .i64 b, .int .i64 c, .int .i64 d, .int .i64 e] := by
  unfold flat
  rw [List.flatMap_append]
  simp [P5.cells]
theorem cell_five_new (w : World) (a c d e f : Value) (t : TypeId) : ∀ j u, [a, c, d, e, f][j]? = some u → (w.alloc (.cells #[a, c, d, e, f] t)).cell? ((⟨w.heap.size, 0, none⟩ : Addr).add j) = some u := by
  intro j u hj
  have hadd : (⟨w.heap.size, 0, none⟩ : Addr).add j = ⟨w.heap.size, j, none⟩ := by unfold Addr.add; split <;> simp_all
  rw [hadd, World.cell?_alloc_mark]
  match j, hj with
  | 0, hj => exact hj
  | 1, hj => exact hj
  | 2, hj => exact hj
  | 3, hj => exact hj
  | 4, hj => exact hj
  | j + 5, hj => simp at hj
theorem cell_five_at (w : World) (g : Nat) (hg : g = w.heap.size) (a c d e f : Value) (t : TypeId) : ∀ j u, [a, c, d, e, f][j]? = some u → (w.alloc (.cells #[a, c, d, e, f] t)).cell? ((⟨g, 0, none⟩ : Addr).add j) = some u := by
  subst hg
  exact cell_five_new w a c d e f t
/-- A list of at most eight pointers, in memory of the call's own. -/
def DrawnPs (w : World) (r : Ending) (w' : World) : Prop :=
  ∃ (ps : List P5) (g c : Nat), r = .returned (.slice (some ⟨g, 0, none⟩) ps.length c) ∧ ps.length ≤ 8 ∧ w'.ownsRow w.heap.size 65 5 (.slice (some ⟨g, 0, none⟩) ps.length c) ps.length (flat ps) ∧ Below w.heap.size w w'

set_option maxRecDepth 100000 in
set_option maxHeartbeats 4000000 in
theorem draw_of (A : Option Addr) (n cap : Nat) (w : World) (hn : n ≤ cap) (hA : BytesAt w A n) :
    Calls Try.prog 52 #[.slice A n cap] w (DrawnPs w) := by
  have hO := open_rd A n cap w hn hA
  obtain ⟨i0, hi, hz0, hz1, hz2⟩ := info_parts Try.info65
  go_enter Try.func52, Try.ntmps52
  go_wp2_with (go_at_call 76; refine hO.mono ?_; rintro e w1 ⟨A1, m, c1, B, rfl, hr⟩; refine Hid.out ?_)
  refine Lib.hid ?_
  have o1 := World.ownsRow_made (e := 65) (base := w1.heap.size) w1 (size := 5) #[] 0 (Nat.le_refl _) (by decide) rfl
  have hws := hr.bel.size
  have hK := fun (o : Obj) => pick_rd w (w1.alloc o) B A1 m c1 0 9 (hr.alloc o) (by omega) (by omega) (by omega)
  clear hO
  go_wp2_with (go_at_call 78; refine (hK _).mono ?_; rintro e w2 ⟨x, x0, x1, rfl, hr2, g2⟩; refine Hid.out ?_)
  refine Lib.hid ?_
  obtain ⟨many, rfl⟩ : ∃ many : Nat, x = (many : Int) := ⟨x.toNat, by omega⟩
  have hm8 : many ≤ 8 := by omega
  have o2 := own_pastP (hr.alloc _) o1 g2
  have s2 := g2.size
  rw [World.size_alloc] at s2
  clear hK o1 hr g2 x0 x1
  go_wp2_with fail
  go_loopg [4, 5] many (fun gh l i wr => ∃ (ps : List P5) (g2 c2 p k : Nat), gh = k ∧ k ≤ 8 ∧ i = .int .i64 k ∧ l = .slice (some ⟨g2, 0, none⟩) ps.length c2 ∧ wr.ownsRow w1.heap.size 65 5 (.slice (some ⟨g2, 0, none⟩) ps.length c2) ps.length (flat ps) ∧ IsRd w wr B A1 m c1 p ∧ ps.length + k ≤ 8 ∧ p + 60 * k ≤ 600 ∧ w1.heap.size ≤ wr.heap.size)
  case atStart => exact ⟨[], w1.heap.size, 0, 1, many, rfl, hm8, rfl, rfl, o2, hr2, by simpa using hm8, by omega, by omega⟩
  case round =>
    clear o2 hr2 s2
    obtain ⟨ps, g2, c2, p, k, hg, hk8, rfl, rfl, ho, hr, hl, hp, hsz⟩ := hrel
    have HG := Lib.hid hg
    clear hg
    by_cases hk : 0 < k
    · have hP := ptr_gr w wr B A1 m c1 p hr (by omega)
      have hk' : (0 : Int) < (k : Int) := by omega
      go_wp2_with (go_at_call 80; refine hP.mono ?_; rintro r w2 ⟨a, b, c, d, f, p2, rfl, h2, hp2, g3⟩; refine Hid.out ?_)
      refine Lib.hid ?_
      have ho2 := own_pastP hr ho g3
      have s2 := g3.size
      have x2 := B5.new w2 ⟨a, b, c, d, f⟩
      have hO : ∀ W, Calls Try.prog 70 #[.agg #[.int .i64 a, .int .i64 b, .int .i64 c, .int .i64 d, .int .i64 f]] W fun r w' => r = .returned (.bool (isOk a b c d f)) ∧ Below W.heap.size W w' := fun W => (spec_pok a b c d f W).mono fun r w' ⟨h1, h2⟩ => ⟨h1, h2 ▸ bel_new (bel_new (Below.refl _ _) _) _⟩
      clear hP g3 ho hr
      generalize isOk a b c d f = ok at hO
      have bl : Below w2.heap.size w2 (w2.alloc (.cells #[.int .i64 a, .int .i64 b, .int .i64 c, .int .i64 d, .int .i64 f] 65)) := bel_new (Below.refl _ _) _
      go_wp2_with fail
      cases ok with
      | true =>
        go_wp2_with (go_at_call 70; refine (hO _).mono ?_; rintro r w3 ⟨rfl, hb3⟩; refine Hid.out ?_)
        refine Lib.hid ?_
        have h3 := (h2.below bl).below hb3
        have ho3 := own_bel (own_bel ho2 bl) hb3
        obtain ⟨q0, q1, q2, q3, q4⟩ := (x2.below hb3).cells
        have s3 := (bel_then bl hb3).size
        clear hO hb3 x2 bl ho2 h2
        go_wp2_with (at_builtin; refine wpList_append_own_at _ rfl _ _ 47 rfl w1.heap.size 65 i0 (.agg #[.int .i64 0, .int .i64 0, .int .i64 0, .int .i64 0, .int .i64 0]) 5 40 Try.underlying47 hi hz0 hz1 hz2 rfl (by decide) _ _ _ rfl (ho3.alloc _) ⟨_, 0, none⟩ 1 1 [.int .i64 a, .int .i64 b, .int .i64 c, .int .i64 d, .int .i64 f] rfl rfl (cell_five_at _ _ (by simp) _ _ _ _ _ _) (by simp [Value.oneCell']) (by unfold maxLen; omega) (by omega) (by simp; omega) ?_)
        intro v' w4 hown' hgrow _ hat
        have R : w4.ownsRow w1.heap.size 65 5 v' (ps ++ [(⟨a, b, c, d, f⟩ : P5)]).length (flat (ps ++ [(⟨a, b, c, d, f⟩ : P5)])) := by rw [flat_snoc, List.length_append]; exact hown'
        have D1 := IsRd.grownP (h3.alloc _) (ho3.alloc _) hws hgrow
        have S1 := hgrow.size
        simp only [World.size_alloc] at S1
        obtain ⟨g4, c4, rfl⟩ := own_formP R (by simp)
        clear hown' hgrow hat
        go_wp2
        go_roundg (k - 1)
        case measure => have := HG.out; omega
        case rel => exact ⟨ps ++ [(⟨a, b, c, d, f⟩ : P5)], g4, c4, p2, k - 1, rfl, by omega, by congr 1; omega, by simp, R, D1, by simp; omega, by omega, by omega⟩
      | false =>
        go_wp2_with (go_at_call 70; refine (hO _).mono ?_; rintro r w3 ⟨rfl, hb3⟩; refine Hid.out ?_)
        refine Lib.hid ?_
        have h3 := (h2.below bl).below hb3
        have ho3 := own_bel (own_bel ho2 bl) hb3
        have x3 := x2.below hb3
        have s3 := (bel_then bl hb3).size
        have hK := pick_rd w w3 B A1 m c1 p2 4 h3 (by omega) (by omega) (by omega)
        clear hO hb3 x2 bl ho2 h2
        go_wp2_with (go_at_call 78; refine hK.mono ?_; rintro e w5 ⟨x, x0, x1, rfl, h5, g5⟩; refine Hid.out ?_)
        refine Lib.hid ?_
        have ho5 := own_pastP h3 ho3 g5
        have hBx : w2.heap.size ≠ B := by
          intro e
          have u := h3.blk
          rw [← e] at u
          have u2 := x3
          unfold B5 at u2
          rw [u2] at u
          simp at u
        obtain ⟨q0, q1, q2, q3, q4⟩ := (x3.grown g5 (by simpa using hBx)).cells
        have s5 := g5.size
        clear hK g5 h3 ho3 x3
        by_cases hx : x = 0
        · subst hx
          go_wp2_with (at_builtin; refine wpList_append_own_at _ rfl _ _ 47 rfl w1.heap.size 65 i0 (.agg #[.int .i64 0, .int .i64 0, .int .i64 0, .int .i64 0, .int .i64 0]) 5 40 Try.underlying47 hi hz0 hz1 hz2 rfl (by decide) _ _ _ rfl (ho5.alloc _) ⟨_, 0, none⟩ 1 1 [.int .i64 a, .int .i64 b, .int .i64 c, .int .i64 d, .int .i64 f] rfl rfl (cell_five_at _ _ (by simp) _ _ _ _ _ _) (by simp [Value.oneCell']) (by unfold maxLen; omega) (by omega) (by simp; omega) ?_)
          intro v' w4 hown' hgrow _ hat
          have R : w4.ownsRow w1.heap.size 65 5 v' (ps ++ [(⟨a, b, c, d, f⟩ : P5)]).length (flat (ps ++ [(⟨a, b, c, d, f⟩ : P5)])) := by rw [flat_snoc, List.length_append]; exact hown'
          have D1 := IsRd.grownP (h5.alloc _) (ho5.alloc _) hws hgrow
          have S1 := hgrow.size
          simp only [World.size_alloc] at S1
          obtain ⟨g4, c4, rfl⟩ := own_formP R (by simp)
          clear hown' hgrow hat
          go_wp2
          go_roundg (k - 1)
          case measure => have := HG.out; omega
          case rel => exact ⟨ps ++ [(⟨a, b, c, d, f⟩ : P5)], g4, c4, (p2 + 1), k - 1, rfl, by omega, by congr 1; omega, by simp, R, D1, by simp; omega, by omega, by omega⟩
        · have hx' : (x == 0) = false := by simpa using hx
          clear hx
          go_wp2_with fail
          go_roundg (k - 1)
          case measure => have := HG.out; omega
          case rel => exact ⟨ps, g2, c2, p2 + 1, k - 1, rfl, by omega, by congr 1; omega, rfl, ho5, h5, by omega, by omega, by omega⟩
    · have hk0 : k = 0 := by omega
      subst hk0
      go_wp2_with fail
      go_ret
      exact ⟨ps, g2, c2, rfl, by omega, own_base ho hws, hr.bel⟩
end Go.Proofs.Ytlmemjfinpccoaa
