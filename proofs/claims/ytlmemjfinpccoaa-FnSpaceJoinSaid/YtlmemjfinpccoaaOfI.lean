/-
  The program's way of counting references: a map of rows, and a map of what was seen.
-/
import Derived.Test.YtlmemjfinpccoaaOfS
import Derived.Test.YtlmemjfinpccoaaSeen
import Derived.Test.YtlmemjfinpccoaaImA
import Derived.WalkArith
namespace Go.Proofs.Ytlmemjfinpccoaa
open Go.RowKit

/-- Some pointer of a list that is no hole has this row and this birth. -/
def clashN (qs : List P5) (x y : Int) : Bool := qs.any fun q => !q.hole && (q.a == x && q.b == y)
theorem clashN_is (qs : List P5) {x : Int} (y : Int) (hx : 8 ≤ x) : clashN qs x y = clash qs x y := by
  unfold clashN clash
  congr 1
  funext q
  cases h : q.hole with
  | false => rfl
  | true =>
    have hz := hole_zero h
    have : (q.a == x) = false := by
      rw [hz]
      show ((0 : Int) == x) = false
      simp
      omega
    rw [this]
    rfl
theorem clashN_more {ps : List P5} {k : Nat} (hk : k < ps.length) (x y : Int) : clashN (ps.take (k + 1)) x y = (clashN (ps.take k) x y || (!ps[k].hole && (ps[k].a == x && ps[k].b == y))) := by
  unfold clashN
  rw [List.take_succ_eq_append_getElem hk, List.any_append, List.any_cons, List.any_nil, Bool.or_false]
/-- The maps of the count so far, and the box of what is returned. -/
structure Cmt (H b1 b2 k : Nat) (ps : List P5) (W : World) : Prop where
  out : B2 W H 24 (.slice none 0 0) (.slice none 0 0)
  rows : UMap W Try.prog 3 b1 (ofU (ps.take k))
  seen : Seen W b2 k (clashN (ps.take k))
theorem Cmt.below {H b1 b2 k : Nat} {ps : List P5} {W W' : World} (h : Cmt H b1 b2 k ps W) (hb : Below W.heap.size W W') : Cmt H b1 b2 k ps W' :=
  ⟨h.out.below hb, h.rows.below hb, h.seen.below hb⟩

set_option maxRecDepth 100000 in
set_option maxHeartbeats 8000000 in
theorem impl_of (A : Option Addr) (cap : Nat) (ps : List P5) (w : World) (hn : ps.length ≤ 1048576) (hA : PArg w A ps) :
    Calls Try.prog 41 #[.slice A ps.length cap] w (SPost2 (ofS ps).1 (ofS ps).2 w) := by
  have hmm := @run_makeMap Try.prog
  have b0 := ((B2.new w 24 (.slice none 0 0) (.slice none 0 0)).alloc (.map #[] 0)).alloc (.map #[] 0)
  have hM := (UMap.made (w.alloc (.cells #[.slice none 0 0, .slice none 0 0] 24)) Try.prog 3).below (bel_new (Below.refl _ _) (.map #[] 0))
  have hN := Seen.made ((w.alloc (.cells #[.slice none 0 0, .slice none 0 0] 24)).alloc (.map #[] 0))
  rw [World.size_alloc] at hM
  rw [World.size_alloc, World.size_alloc] at hN
  have C0 : Cmt w.heap.size (w.heap.size + 1) (w.heap.size + 1 + 1) 0 ps (((w.alloc (.cells #[.slice none 0 0, .slice none 0 0] 24)).alloc (.map #[] 0)).alloc (.map #[] 0)) := ⟨b0, hM, hN⟩
  have B0 : Below w.heap.size w (((w.alloc (.cells #[.slice none 0 0, .slice none 0 0] 24)).alloc (.map #[] 0)).alloc (.map #[] 0)) := bel_new (bel_new (bel_new (Below.refl _ _) _) _) _
  clear b0 hM hN
  go_enter Try.func41, Try.ntmps41
  go_wp2_with fail
  obtain ⟨b1, hb1⟩ : ∃ b1, b1 = w.heap.size + 1 := ⟨_, rfl⟩
  obtain ⟨b2, hb2⟩ : ∃ b2, b2 = w.heap.size + 1 + 1 := ⟨_, rfl⟩
  rw [← hb2, ← hb1] at C0 ⊢
  have hne : b1 ≠ b2 := by omega
  have hn1 : w.heap.size < b1 := by omega
  have hn2 : w.heap.size < b2 := by omega
  clear hb1 hb2
  go_loopw [13] (fun i wr => ∃ k : Nat, k ≤ ps.length ∧ i = .int .i64 k ∧ fineTo ps k = true ∧ Cmt w.heap.size b1 b2 k ps wr ∧ Below w.heap.size w wr) (fun i _ => ps.length - (intOf i).toNat)
  case atStart => exact ⟨0, Nat.zero_le _, rfl, rfl, C0, B0⟩
  case round =>
    obtain ⟨k, hk, rfl, hF, hC, hB⟩ := hrel
    clear C0 B0
    by_cases hlt : k < ps.length
    · obtain ⟨b, off, rfl, hlb, hc⟩ := (hA.below hB) (by omega)
      obtain ⟨P, hP⟩ : ∃ P, P = ps[k] := ⟨_, rfl⟩
      have hck := hc k hlt
      rw [← hP] at hck
      have y0 : wr.cell? ⟨b, off + k * 5, none⟩ = some (.int .i64 P.a) := hck 0 _ (by decide) rfl
      have y1 : wr.cell? ⟨b, off + k * 5 + 1, none⟩ = some (.int .i64 P.b) := hck 1 _ (by decide) rfl
      have y2 : wr.cell? ⟨b, off + k * 5 + 2, none⟩ = some (.int .i64 P.c) := hck 2 _ (by decide) rfl
      have y3 : wr.cell? ⟨b, off + k * 5 + 3, none⟩ = some (.int .i64 P.d) := hck 3 _ (by decide) rfl
      have y4 : wr.cell? ⟨b, off + k * 5 + 4, none⟩ = some (.int .i64 P.e) := hck 4 _ (by decide) rfl
      have hO : ∀ W, Calls Try.prog 74 #[.agg #[.int .i64 P.a, .int .i64 P.b, .int .i64 P.c, .int .i64 P.d, .int .i64 P.e]] W fun r w' => r = .returned (.bool P.ok) ∧ Below W.heap.size W w' := fun W => (m_ok P.a P.b P.c P.d P.e W).mono fun r w' ⟨h1, h2⟩ => ⟨h1, h2 ▸ bel_new (bel_new (Below.refl _ _) _) _⟩
      have hH : ∀ W, Calls Try.prog 73 #[.agg #[.int .i64 P.a, .int .i64 P.b, .int .i64 P.c, .int .i64 P.d, .int .i64 P.e]] W fun r w' => r = .returned (.bool P.hole) ∧ Below W.heap.size W w' := fun W => (m_hole P.a P.b P.c P.d P.e W).mono fun r w' ⟨h1, h2⟩ => ⟨h1, h2 ▸ bel_new (Below.refl _ _) _⟩
      have x0 := (B5.new wr P)
      have HK := Lib.hid hlt
      have HP := Lib.hid hP
      have HF := Lib.hid hF
      have HA := Lib.hid hA
      have hb3 : Below wr.heap.size wr (wr.alloc (.cells #[.int .i64 P.a, .int .i64 P.b, .int .i64 P.c, .int .i64 P.d, .int .i64 P.e] 65)) := bel_new (Below.refl _ _) _
      clear hc hck hP hF hA
      cases hh : P.hole with
      | true =>
        have hz := hole_zero hh
        have HNEW : Hid (fineTo ps (k + 1) = true ∧ ofU (ps.take (k + 1)) = ofU (ps.take k) ∧ ∀ x y, clashN (ps.take k) x y = clashN (ps.take (k + 1)) x y) := Lib.hid (by
          refine ⟨fine_more HK.out HF.out ?_, ?_, fun x y => ?_⟩
          · rw [← HP.out]; unfold fineAt P5.ok isOk; rw [show isHole P.a P.b P.c P.d P.e = true from hh, hh]; rfl
          · rw [ofU_more HK.out, ← HP.out]; unfold stepU; rw [if_pos hh]
          · rw [clashN_more HK.out, ← HP.out, hh]; simp)
        rw [hh] at hH
        clear hh hz hO
        go_wp2_with (go_at_call 73; refine (hH _).mono ?_; rintro r w3 ⟨rfl, hb4⟩; have hb5 := bel_then hb3 hb4)
        go_roundw
        case rel => exact ⟨k + 1, by have := HK.out; omega, by go_num, HNEW.out.1, ⟨hC.out.below hb5, by rw [HNEW.out.2.1]; exact hC.rows.below hb5, ((hC.seen.below hb5).mono (Nat.le_succ _)).same HNEW.out.2.2⟩, bel_then hB hb5⟩
        case measure => have := HK.out; simp [intOf]; omega
      | false =>
        rw [hh] at hH
        have HH := Lib.hid hh
        clear hh
        go_wp2_with (go_at_call 73; refine (hH _).mono ?_; rintro r w3 ⟨rfl, hb4⟩; refine Hid.out ?_)
        refine Lib.hid ?_
        have hb5 := bel_then hb3 hb4
        have x1 := x0.below hb4
        have C1 := hC.below hb5
        have B1 := bel_then hB hb5
        obtain ⟨X, hX⟩ : ∃ X, X = wr.heap.size := ⟨_, rfl⟩
        rw [← hX] at x1 ⊢
        have hbX : b1 < X ∧ b2 < X := by rw [hX]; exact ⟨hC.rows.lt, hC.seen.lt⟩
        clear hX y0 y1 y2 y3 y4 x0 hb3 hb4 hb5 hC hB hH
        obtain ⟨z0, z1, z2, z3, z4⟩ := x1.cells
        have k0 := B2.new w3 85 (.int .i64 P.a) (.int .i64 P.b)
        have bl : Below w3.heap.size w3 (w3.alloc (.cells #[.int .i64 P.a, .int .i64 P.b] 85)) := bel_new (Below.refl _ _) _
        have x2 := x1.below bl
        have C2 := C1.below bl
        have B2' := bel_then B1 bl
        obtain ⟨m0, m1, m2, m3, m4⟩ := x2.cells
        cases hok : P.ok with
        | false =>
          have HT : Hid (ofS ps = (noS, false)) := Lib.hid (fine_not HK.out (by have := HP.out; rw [← this]; unfold fineAt; rw [hok]; rfl))
          rw [hok] at hO
          clear hok
          go_wp2_with (go_at_call 74; refine (hO _).mono ?_; rintro r w4 ⟨rfl, hb4⟩; have BZ := bel_then B2' hb4; obtain ⟨⟨o0, o1⟩, f0, f1⟩ := (C2.below hb4).out.cells)
          exact bodyPost_ret (v := .tuple #[.agg #[.slice none 0 0, .slice none 0 0], .bool false]) (by simp [results, Try.f41, go_sem, o0, o1]) rfl (by rw [HT.out]; exact SPost.mk2 rfl rfl (noS_own _ _) ((BZ.setCell (p := ⟨w.heap.size, 0, none⟩) (Nat.le_refl _) _).setCell (p := ⟨w.heap.size, 1, none⟩) (Nat.le_refl _) _))
        | true =>
          rw [hok] at hO
          have HOK := Lib.hid hok
          clear hok
          have r := ok_ranges HOK.out HH.out
          have hcl := clashN_is (ps.take k) (x := P.a) P.b r.1
          have wa : (Lit.int .i64 P.a).wf = true := WalkArith.wf_i64 (by omega)
          have wb : (Lit.int .i64 P.b).wf = true := WalkArith.wf_i64 (by omega)
          have hgl : ∀ W, Below (w3.alloc (.cells #[.int .i64 P.a, .int .i64 P.b] 85)).heap.size (w3.alloc (.cells #[.int .i64 P.a, .int .i64 P.b] 85)) W → (Instr.lookup 83 (.map (some b2)) (.agg #[.int .i64 P.a, .int .i64 P.b]) false).run Try.prog W = .ok (.bool (clashN (ps.take k) P.a P.b)) W := fun W hW => (C2.below hW).seen.look wa wb
          cases hf : clashN (ps.take k) P.a P.b with
          | true =>
            have HT : Hid (ofS ps = (noS, false)) := Lib.hid (fine_not HK.out (by rw [← HP.out]; unfold fineAt; rw [HOK.out, HH.out, ← hcl, hf]; rfl))
            rw [hf] at hgl
            clear hcl hf r wa wb
            go_wp2_with (go_at_call 74; refine (hO _).mono ?_; rintro r w4 ⟨rfl, hb4⟩; have BZ := bel_then B2' hb4; obtain ⟨⟨o0, o1⟩, f0, f1⟩ := (C2.below hb4).out.cells; obtain ⟨⟨q0, q1⟩, _, _⟩ := (k0.below hb4).cells; have hlk := hgl _ hb4)
            exact bodyPost_ret (v := .tuple #[.agg #[.slice none 0 0, .slice none 0 0], .bool false]) (by simp [results, Try.f41, go_sem, o0, o1]) rfl (by rw [HT.out]; exact SPost.mk2 rfl rfl (noS_own _ _) ((BZ.setCell (p := ⟨w.heap.size, 0, none⟩) (Nat.le_refl _) _).setCell (p := ⟨w.heap.size, 1, none⟩) (Nat.le_refl _) _))
          | false =>
            rw [hf] at hgl
            obtain ⟨n, hn'⟩ : ∃ n : Nat, P.a = (n : Int) := ⟨P.a.toNat, by omega⟩
            have hS := Few.of (Nat.le_of_lt HK.out) HF.out
            have l1 := hS.lo P.a
            have l2 := hS.hi P.a
            have HR := Lib.hid r
            have HNEW : Hid (fineTo ps (k + 1) = true ∧ ofU (ps.take (k + 1)) = takeU (ofU (ps.take k)) P.a P.b ∧ ∀ x y, (clashN (ps.take k) x y || (P.a == x && P.b == y)) = clashN (ps.take (k + 1)) x y) := Lib.hid (by
              refine ⟨fine_more HK.out HF.out ?_, ?_, fun x y => ?_⟩
              · rw [← HP.out]; unfold fineAt; rw [HOK.out, ← hcl, hf]; simp
              · rw [ofU_more HK.out, ← HP.out]; unfold stepU; rw [if_neg (by rw [HH.out]; simp)]
              · rw [clashN_more HK.out, ← HP.out, HH.out]; simp)
            have hkm : k < maxLen := by have := HK.out; unfold maxLen; omega
            have HL : Hid (0 ≤ (useAt (ofU (ps.take k)) P.a).1 ∧ (useAt (ofU (ps.take k)) P.a).1 ≤ 1048576) := Lib.hid ⟨l1, by have := HK.out; omega⟩
            clear hcl hf r hn' hS l1 l2
            go_wp2_with (first
              | (go_at_call 74; refine (hO _).mono ?_; rintro r w4 ⟨rfl, hb4⟩; have BZ := bel_then B2' hb4; have C4 := C2.below hb4; have k4 := k0.below hb4; have x4 := x2.below hb4; obtain ⟨⟨q0, q1⟩, _, _⟩ := k4.cells; obtain ⟨p0, p1, _, _, _⟩ := x4.cells; have hlk := hgl _ hb4)
              | (at_mapUpdate; refine wpList_sput _ rfl _ _ _ rfl _ _ _ rfl C4.seen hkm P.a P.b rfl rfl wa wb ?_; intro w5 hS5 hg5; have x5 := x4.grown hg5 (by simp; omega); have M5 := C4.rows.grown hg5 (by simpa using hne); have o5 := C4.out.grown hg5 (by simp; omega); have B5' := BZ.grown hg5 BZ.size (fun k e => by cases e; omega); obtain ⟨p0, p1, _, _, _⟩ := x5.cells; have hT := take_map _ _ P.a P.b w5 M5 (by have := HR.out; omega) (by have := HR.out; omega) HL.out.1 HL.out.2)
              | (go_at_call 67; refine hT.mono ?_; rintro r w6 ⟨rfl, M6, hg6⟩))
            go_roundw
            case rel => exact ⟨k + 1, by have := HK.out; omega, by go_num, HNEW.out.1, ⟨o5.grown hg6 (by simp; omega), by rw [HNEW.out.2.1]; exact M6, (hS5.grown hg6 (by simp; omega)).same HNEW.out.2.2⟩, B5'.grown hg6 B5'.size (fun k e => by cases e; omega)⟩
            case measure => have := HK.out; simp [intOf]; omega
    · have hke : k = ps.length := by omega
      subst hke
      have HT : Hid (ofS ps = (spOf (ofU ps), true)) := Lib.hid (fine_yes hF rfl)
      have hM := hC.rows
      rw [List.take_length] at hM
      have hS := impl_space _ _ _ hM
      have b0 := hC.out
      clear hC hF hA hM
      go_wp2_with (go_at_call 54; refine hS.mono ?_; rintro r w2 ⟨A, c, B, e, rfl, o2, hb2⟩; obtain ⟨⟨o0, o1⟩, f0, f1⟩ := (b0.below hb2).cells)
      have hlt := b0.lt
      have hle := hB.size
      refine bodyPost_ret (v := .tuple #[.agg #[.slice A (spOf (ofU ps)).refs.length c, .slice B (spOf (ofU ps)).last.length e], .bool true]) (by simp [results, Try.f41, go_sem, o0, o1]) rfl ?_
      rw [HT.out]
      exact SPost.mk2 rfl rfl (((o2.set (p := ⟨w.heap.size, 0, none⟩) hlt _).set (p := ⟨w.heap.size, 1, none⟩) hlt _).base hle) (((bel_then hB hb2).setCell (p := ⟨w.heap.size, 0, none⟩) (Nat.le_refl _) _).setCell (p := ⟨w.heap.size, 1, none⟩) (Nat.le_refl _) _)
end Go.Proofs.Ytlmemjfinpccoaa
