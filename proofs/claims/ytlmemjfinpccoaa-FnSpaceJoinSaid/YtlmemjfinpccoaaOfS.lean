/-
  The model's way of counting references.
-/
import Derived.Test.YtlmemjfinpccoaaPuO
import Derived.Test.YtlmemjfinpccoaaSpT
import Derived.Test.YtlmemjfinpccoaaNew
import Derived.BigQuiet
import Derived.Deep.RegionHeld3
namespace Go.Proofs.Ytlmemjfinpccoaa
open Go.RowKit

/-- Block g is a box that holds a pointer. -/
def B5 (W : World) (g : Nat) (p : P5) : Prop := W.heap[g]? = some (.cells #[.int .i64 p.a, .int .i64 p.b, .int .i64 p.c, .int .i64 p.d, .int .i64 p.e] 65 (0, 0))
theorem B5.new (w : World) (p : P5) : B5 (w.alloc (.cells #[.int .i64 p.a, .int .i64 p.b, .int .i64 p.c, .int .i64 p.d, .int .i64 p.e] 65)) w.heap.size p := heap_alloc_new w _
theorem B5.lt {W : World} {g : Nat} {p : P5} (h : B5 W g p) : g < W.heap.size := (Array.getElem?_eq_some_iff.1 h).1
theorem B5.below {W W' : World} {g : Nat} {p : P5} (h : B5 W g p) (hb : Below W.heap.size W W') : B5 W' g p := (hb.block g h.lt).trans h
theorem B5.set {W : World} {g : Nat} {p : P5} (h : B5 W g p) {a : Addr} (ha : g ≠ a.block) (u : Value) : B5 (W.setCell a u) g p := (Below.heap_setCell W a u g ha).trans h
theorem B5.grown {W W' : World} {g : Nat} {p : P5} (h : B5 W g p) {r : Option Nat} (hg : W.grownBy W' r) (hr : some g ≠ r) : B5 W' g p := (hg.block g h.lt hr).trans h
theorem B5.cells {W : World} {g : Nat} {p : P5} (h : B5 W g p) :
    W.cell? ⟨g, 0, none⟩ = some (.int .i64 p.a) ∧ W.cell? ⟨g, 1, none⟩ = some (.int .i64 p.b) ∧ W.cell? ⟨g, 2, none⟩ = some (.int .i64 p.c) ∧ W.cell? ⟨g, 3, none⟩ = some (.int .i64 p.d) ∧ W.cell? ⟨g, 4, none⟩ = some (.int .i64 p.e) := by
  unfold B5 at h
  simp [World.cell?, h]

/-- The boxes of the count so far: what is returned, the space, its two rows. -/
structure Cnt (H g p q cp cq : Nat) (U : Us) (W : World) : Prop where
  out : B2 W H 24 (.slice none 0 0) (.slice none 0 0)
  box : B2 W g 24 (.slice (some ⟨p, 0, none⟩) 64 cp) (.slice (some ⟨q, 0, none⟩) 64 cq)
  r1 : W.ownsRow (H + 1) 3 1 (.slice (some ⟨p, 0, none⟩) 64 cp) 64 (intCells (spOf U).refs)
  r2 : W.ownsRow (H + 1) 3 1 (.slice (some ⟨q, 0, none⟩) 64 cq) 64 (intCells (spOf U).last)
theorem Cnt.below {H g p q cp cq : Nat} {U : Us} {W W' : World} (h : Cnt H g p q cp cq U W) (hb : Below W.heap.size W W') : Cnt H g p q cp cq U W' :=
  ⟨h.out.below hb, h.box.below hb, own_bel h.r1 hb, own_bel h.r2 hb⟩
theorem Cnt.drew {H g p q cp cq : Nat} {U : Us} {W : World} (h : Cnt H g p q cp cq U W) : Cnt H g p q cp cq U W.drew := ⟨h.out, h.box, h.r1, h.r2⟩
theorem Cnt.take {H g p q cp cq : Nat} {U : Us} {W : World} (hL : Laid H g p q) (h : Cnt H g p q cp cq U W) (n t : Int) {x y : Int} (hx : x = (useAt U n).1 + 1) (hy : y = max (useAt U n).2 t) :
    Cnt H g p q cp cq (takeU U n t) ((W.setCell ⟨p, n.toNat, none⟩ (.int .i64 x)).setCell ⟨q, n.toNat, none⟩ (.int .i64 y)) := by
  obtain ⟨h0, h1, h2, h3⟩ := h
  have a2 := (h2.stored n.toNat (.int .i64 x)).1
  have a3 := h3.kept (grown_set W ⟨p, n.toNat, none⟩ (.int .i64 x)) (.inr (by simpa [Value.ownBlock] using hL.pq.symm))
  have b3 := (a3.stored n.toNat (.int .i64 y)).1
  have b2 := a2.kept (grown_set (W.setCell ⟨p, n.toNat, none⟩ (.int .i64 x)) ⟨q, n.toNat, none⟩ (.int .i64 y)) (.inr (by simpa [Value.ownBlock] using hL.pq))
  rw [intCells_set] at b2 b3
  refine ⟨(h0.set (by have := hL.p0; show H ≠ p; omega) _).set (by have := hL.q0; show H ≠ q; omega) _, (h1.set hL.gp _).set hL.gq _, ?_, ?_⟩
  · rw [spOf_takeU, ← hx]; exact b2
  · rw [spOf_takeU, ← hy]; exact b3

theorem clash_at {ps : List P5} {j : Nat} (hj : j < ps.length) {x y : Int} (h0 : clash (ps.take j) x y = false) : clash (ps.take (j + 1)) x y = (ps[j].a == x && ps[j].b == y) := by
  rw [clash_more hj, h0, Bool.false_or]
theorem clash_le {ps : List P5} {x y : Int} {j k : Nat} (hjk : j ≤ k) (h : clash (ps.take j) x y = true) : clash (ps.take k) x y = true := by
  unfold clash at h ⊢
  rw [List.any_eq_true] at h ⊢
  obtain ⟨z, hz, h⟩ := h
  refine ⟨z, ?_, h⟩
  have : ps.take j = (ps.take k).take j := by rw [List.take_take, Nat.min_eq_left hjk]
  rw [this] at hz
  exact List.mem_of_mem_take hz

/-- What the last region of a round reads, but for the cell that it writes. -/
def KR (G X q cq n : Nat) (b : Int) (W : World) : Prop := W.cell? ⟨G, 1, none⟩ = some (.slice (some ⟨q, 0, none⟩) 64 cq) ∧ W.cell? ⟨X, 0, none⟩ = some (.int .i64 (n : Int)) ∧ W.cell? ⟨X, 1, none⟩ = some (.int .i64 b)
theorem KR.store {G X q cq n : Nat} {b : Int} {W : World} (h : KR G X q cq n b W) (h1 : G ≠ q) (h2 : X ≠ q) (u : Value) : KR G X q cq n b (W.setCell ⟨q, n, none⟩ u) :=
  ⟨(World.cell?_of_block (a := ⟨G, 1, none⟩) (Below.heap_setCell W ⟨q, n, none⟩ u G h1)).trans h.1, (World.cell?_of_block (a := ⟨X, 0, none⟩) (Below.heap_setCell W ⟨q, n, none⟩ u X h2)).trans h.2.1, (World.cell?_of_block (a := ⟨X, 1, none⟩) (Below.heap_setCell W ⟨q, n, none⟩ u X h2)).trans h.2.2⟩
theorem run_max2 (P : Program) (ts : Array TypeId) (t : TypeId) (a b : Int) (w : World) : (Builtin.max_ ts t #[.int .i64 a, .int .i64 b]).run P w = .ok (.int .i64 (max a b)) w := by
  have h : (if b > a then b else a) = max a b := by split <;> omega
  rw [← h]
  rfl
set_option maxRecDepth 100000 in
set_option maxHeartbeats 8000000 in
theorem spec_of (A : Option Addr) (cap : Nat) (ps : List P5) (w : World) (hn : ps.length ≤ 1048576) (hA : PArg w A ps) :
    Calls Try.prog 39 #[.slice A ps.length cap] w (SPost2 (ofS ps).1 (ofS ps).2 w) := by
  have hN := spec_new
  have e1 : newS.refs.length = 64 := by simp [newS]
  have e2 : newS.last.length = 64 := by simp [newS]
  go_enter Try.func39, Try.ntmps39
  go_wp2_with (go_at_call 19; refine (hN _).mono ?_; rintro r w2 ⟨A2, cp, C2, cq, rfl, o2, hb2⟩; refine Hid.out ?_)
  refine Lib.hid ?_
  obtain ⟨p, q, rfl, rfl, hpq, hp0, hq0, hp1, hq1, g1, g2⟩ := own_addr2 o2 (by omega) (by omega)
  rw [e1] at g1 o2
  rw [e2] at g2 o2
  have b0 : B2 w2 w.heap.size 24 (.slice none 0 0) (.slice none 0 0) := (B2.new w 24 _ _).below hb2
  have BB : Below w.heap.size w w2 := bel_then (bel_new (Below.refl _ _) _) hb2
  have hsz : w.heap.size < w2.heap.size := b0.lt
  obtain ⟨bx, hbx⟩ : ∃ bx : Obj, bx = .cells #[.slice (some ⟨p, 0, none⟩) 64 cp, .slice (some ⟨q, 0, none⟩) 64 cq] 24 := ⟨_, rfl⟩
  have bb := B2.new w2 24 (.slice (some ⟨p, 0, none⟩) 64 cp) (.slice (some ⟨q, 0, none⟩) 64 cq)
  rw [← hbx] at bb
  rw [World.size_alloc] at hp0 hq0 g1 g2
  have hL : Laid w.heap.size w2.heap.size p q := ⟨hsz, by omega, by omega, by omega, by omega, hpq⟩
  have C0 : Cnt w.heap.size w2.heap.size p q cp cq (ofU (ps.take 0)) (w2.alloc bx) := ⟨b0.alloc _, bb, g1.alloc bx, g2.alloc bx⟩
  have B0 := bel_new BB bx
  clear bb hsz BB b0 g1 g2 hp0 hq0 hp1 hq1 hpq o2 hb2 e1 e2 hN
  subst hbx
  go_wp2_with fail
  obtain ⟨G, hG⟩ : ∃ G, G = w2.heap.size := ⟨_, rfl⟩
  rw [← hG] at hL C0 ⊢
  clear hG
  go_loopw [5] (fun i wr => ∃ k : Nat, k ≤ ps.length ∧ i = .int .i64 k ∧ fineTo ps k = true ∧ Cnt w.heap.size G p q cp cq (ofU (ps.take k)) wr ∧ Below w.heap.size w wr) (fun i _ => ps.length - (intOf i).toNat)
  case atStart => exact ⟨0, Nat.zero_le _, rfl, rfl, C0, B0⟩
  case round =>
    obtain ⟨k, hk, rfl, hF, hC, hB⟩ := hrel
    clear C0 B0
    by_cases hlt : k < ps.length
    · obtain ⟨b, off, rfl, hlb, hc⟩ := (hA.below hB) (by omega)
      obtain ⟨P, hP⟩ : ∃ P, P = ps[k] := ⟨_, rfl⟩
      have hck := hc k hlt
      rw [← hP] at hck
      have y0 : wr.cell? ⟨b, off + k * 5, none⟩ = some (.int .i64 P.a) := hck 0 _ (by decide) rfl
      have y1 : wr.cell? ⟨b, off + k * 5 + 1, none⟩ = some (.int .i64 P.b) := hck 1 _ (by decide) rfl
      have y2 : wr.cell? ⟨b, off + k * 5 + 2, none⟩ = some (.int .i64 P.c) := hck 2 _ (by decide) rfl
      have y3 : wr.cell? ⟨b, off + k * 5 + 3, none⟩ = some (.int .i64 P.d) := hck 3 _ (by decide) rfl
      have y4 : wr.cell? ⟨b, off + k * 5 + 4, none⟩ = some (.int .i64 P.e) := hck 4 _ (by decide) rfl
      have hO : ∀ W, Calls Try.prog 70 #[.agg #[.int .i64 P.a, .int .i64 P.b, .int .i64 P.c, .int .i64 P.d, .int .i64 P.e]] W fun r w' => r = .returned (.bool P.ok) ∧ Below W.heap.size W w' := fun W => (spec_pok P.a P.b P.c P.d P.e W).mono fun r w' ⟨h1, h2⟩ => ⟨h1, h2 ▸ bel_new (bel_new (Below.refl _ _) _) _⟩
      have hH : ∀ W, Calls Try.prog 71 #[.agg #[.int .i64 P.a, .int .i64 P.b, .int .i64 P.c, .int .i64 P.d, .int .i64 P.e]] W fun r w' => r = .returned (.bool P.hole) ∧ Below W.heap.size W w' := fun W => (spec_hole P.a P.b P.c P.d P.e W).mono fun r w' ⟨h1, h2⟩ => ⟨h1, h2 ▸ bel_new (Below.refl _ _) _⟩
      have x0 := (B5.new wr P)
      have HK := Lib.hid hlt
      have HP := Lib.hid hP
      have HF := Lib.hid hF
      have HA := Lib.hid hA
      have hb3 : Below wr.heap.size wr (wr.alloc (.cells #[.int .i64 P.a, .int .i64 P.b, .int .i64 P.c, .int .i64 P.d, .int .i64 P.e] 65)) := bel_new (Below.refl _ _) _
      clear hc hck hP hF hA
      cases hok : P.ok with
      | false =>
        have HT : Hid (ofS ps = (noS, false)) := Lib.hid (fine_not HK.out (by have := HP.out; rw [← this]; unfold fineAt; rw [hok]; rfl))
        rw [hok] at hO
        clear hok hH
        go_wp2_with (go_at_call 70; refine (hO _).mono ?_; rintro r w3 ⟨rfl, hb4⟩; have hb5 := bel_then hb3 hb4; have BZ := bel_then hB hb5; obtain ⟨⟨o0, o1⟩, f0, f1⟩ := (hC.below hb5).out.cells)
        exact bodyPost_ret (v := .tuple #[.agg #[.slice none 0 0, .slice none 0 0], .bool false]) (by simp [results, Try.f39, go_sem, o0, o1]) rfl (by rw [HT.out]; exact SPost.mk2 rfl rfl (noS_own _ _) ((BZ.setCell (p := ⟨w.heap.size, 0, none⟩) (Nat.le_refl _) _).setCell (p := ⟨w.heap.size, 1, none⟩) (Nat.le_refl _) _))
      | true =>
        rw [hok] at hO
        have HOK := Lib.hid hok
        clear hok
        go_wp2_with (go_at_call 70; refine (hO _).mono ?_; rintro r w3 ⟨rfl, hb4⟩; refine Hid.out ?_)
        refine Lib.hid ?_
        have hb5 := bel_then hb3 hb4
        have x1 := x0.below hb4
        have C1 := hC.below hb5
        have B1 := bel_then hB hb5
        have hmono := hb5.size
        have hpX : p < wr.heap.size := (hC.r1.lt p rfl).2
        have hqX : q < wr.heap.size := (hC.r2.lt q rfl).2
        obtain ⟨X, hX⟩ : ∃ X, X = wr.heap.size := ⟨_, rfl⟩
        rw [← hX] at x1 hpX hqX ⊢
        clear hX y0 y1 y2 y3 y4 x0 hb3 hb4 hb5 hC hB hO hmono
        cases hh : P.hole with
        | true =>
          rw [hh] at hH
          have HH := Lib.hid hh
          clear hh
          go_wp2_with fail
          go_loopw [7] (fun i wr2 => i = .int .i64 0 ∧ B5 wr2 X P ∧ Cnt w.heap.size G p q cp cq (ofU (ps.take k)) wr2 ∧ Below w.heap.size w wr2) (fun i _ => k - (intOf i).toNat)
          case atStart => exact ⟨rfl, x1, C1, B1⟩
          case round =>
            obtain ⟨rfl, x2, C2, B2⟩ := hrel
            clear x1 C1 B1
            have HU : Hid (fineTo ps (k + 1) = true ∧ ofU (ps.take (k + 1)) = ofU (ps.take k)) := Lib.hid (by
              refine ⟨fine_more HK.out HF.out ?_, ?_⟩
              · rw [← HP.out]; unfold fineAt; rw [HOK.out, HH.out]; rfl
              · rw [ofU_more HK.out, ← HP.out]; unfold stepU; rw [if_pos HH.out])
            obtain ⟨z0, z1, z2, z3, z4⟩ := x2.cells
            have hk0 := HK.out
            go_wp2_with (go_at_call 71; refine (hH _).mono ?_; rintro r w4 ⟨rfl, hb4⟩; replace x2 := x2.below hb4; replace C2 := C2.below hb4; replace B2 := bel_then B2 hb4; obtain ⟨z0, z1, z2, z3, z4⟩ := x2.cells)
            all_goals
              go_roundw
              case rel => exact ⟨k + 1, by omega, by go_num, HU.out.1, by rw [HU.out.2]; exact C2, B2⟩
              case measure => simp [intOf]; omega
        | false =>
          rw [hh] at hH
          have r := ok_ranges HOK.out hh
          obtain ⟨n, hn'⟩ : ∃ n : Nat, P.a = (n : Int) := ⟨P.a.toNat, by omega⟩
          obtain ⟨x, y, hu⟩ : ∃ x y, useAt (ofU (ps.take k)) (n : Int) = (x, y) := ⟨_, _, rfl⟩
          have hS := Few.of (Nat.le_of_lt HK.out) HF.out
          have l1 := hS.lo n
          have l2 := hS.hi n
          have l3 := hS.lo2 n
          have l4 := hS.hi2 n
          rw [hu] at l1 l2 l3 l4
          simp only at l1 l2 l3 l4
          have hn64 : n < 64 := by omega
          have hn64' : (n : Int) < 64 := by omega
          obtain ⟨h1, h2, h3⟩ := spOf_at hS.len hn64
          rw [hu] at h3
          have HR : Hid (∃ h : n < (spOf (ofU (ps.take k))).refs.length, (spOf (ofU (ps.take k))).refs[n] = x) := Lib.hid ⟨h1, (congrArg Prod.fst h3).symm⟩
          have HL : Hid (∃ h : n < (spOf (ofU (ps.take k))).last.length, (spOf (ofU (ps.take k))).last[n] = y) := Lib.hid ⟨h2, (congrArg Prod.snd h3).symm⟩
          have HU := Lib.hid hu
          have HN := Lib.hid hn'
          have HH := Lib.hid hh
          have hpb : 1 ≤ P.b ∧ P.b ≤ 900 := ⟨r.2.2.1, r.2.2.2⟩
          have hx1 : x ≤ 1048576 := by omega
          clear hS h1 h2 h3 hu hh r l2 hn'
          go_wp2_with fail
          go_loopw [7] (fun i wr2 => ∃ j : Nat, j ≤ k ∧ i = .int .i64 j ∧ clash (ps.take j) P.a P.b = false ∧ B5 wr2 X P ∧ Cnt w.heap.size G p q cp cq (ofU (ps.take k)) wr2 ∧ Below w.heap.size w wr2) (fun i _ => k - (intOf i).toNat)
          case atStart => exact ⟨0, Nat.zero_le _, rfl, rfl, x1, C1, B1⟩
          case round =>
            obtain ⟨j, hj, rfl, hcl, x2, C2, B2⟩ := hrel
            clear x1 C1 B1
            have HC := Lib.hid hcl
            clear hcl
            obtain ⟨z0, z1, z2, z3, z4⟩ := x2.cells
            by_cases hjk : j < k
            · obtain ⟨Q, hQ⟩ : ∃ Q, Q = ps[j]'(by have := HK.out; omega) := ⟨_, rfl⟩
              have HQ : Hid (∃ h : j < ps.length, ps[j] = Q) := Lib.hid ⟨by have := HK.out; omega, hQ.symm⟩
              clear hQ
              obtain ⟨b', off', e', hlb', hc'⟩ := (HA.out.below B2) (by have := HK.out; omega)
              simp only [Option.some.injEq, Addr.mk.injEq, and_true] at e'
              obtain ⟨rfl, rfl⟩ := e'
              obtain ⟨hj', hq'⟩ := HQ.out
              have hcj := hc' j hj'
              rw [hq'] at hcj
              have v0 : wr.cell? ⟨b, off + j * 5, none⟩ = some (.int .i64 Q.a) := hcj 0 _ (by decide) rfl
              have v1 : wr.cell? ⟨b, off + j * 5 + 1, none⟩ = some (.int .i64 Q.b) := hcj 1 _ (by decide) rfl
              clear hc' hcj hj' hq' hlb
              by_cases h1 : Q.a = P.a
              · by_cases h2 : Q.b = P.b
                · have HT : Hid (ofS ps = (noS, false)) := Lib.hid (fine_not HK.out (by
                    obtain ⟨a, c⟩ := HQ.out
                    rw [← HP.out]; unfold fineAt; rw [HH.out, clash_le (j := j + 1) (by omega) (by rw [clash_at a HC.out, c, h1, h2]; simp)]; simp))
                  rw [h1] at v0
                  rw [h2] at v1
                  clear h1 h2
                  go_wp2_with (go_at_call 71; refine (hH _).mono ?_; rintro r w4 ⟨rfl, hb4⟩; refine Hid.out ?_)
                  refine Lib.hid ?_
                  replace v0 := (hb4.cell (p := ⟨b, off + j * 5, none⟩) hlb').trans v0
                  replace v1 := (hb4.cell (p := ⟨b, off + j * 5 + 1, none⟩) hlb').trans v1
                  replace x2 := x2.below hb4; replace C2 := C2.below hb4; replace B2 := bel_then B2 hb4
                  clear hb4 z0 z1 z2 z3 z4
                  obtain ⟨z0, z1, _, _, _⟩ := x2.cells
                  obtain ⟨⟨o0, o1⟩, f0, f1⟩ := C2.out.cells
                  go_wp2_with fail
                  go_quiet (fail)
                  go_wp2_with fail
                  exact bodyPost_ret (v := .tuple #[.agg #[.slice none 0 0, .slice none 0 0], .bool false]) (by simp [results, Try.f39, go_sem, o0, o1]) rfl (by rw [HT.out]; exact SPost.mk2 rfl rfl (noS_own _ _) (((below_drewN B2 _).setCell (p := ⟨w.heap.size, 0, none⟩) (Nat.le_refl _) _).setCell (p := ⟨w.heap.size, 1, none⟩) (Nat.le_refl _) _))
                · have HX : Hid (clash (ps.take (j + 1)) P.a P.b = false) := Lib.hid (by
                    obtain ⟨a, c⟩ := HQ.out
                    rw [clash_at a HC.out, c]; simp [h2])
                  have hd : decide (Q.b = P.b) = false := by simpa using h2
                  have hd2 : (Q.b == P.b) = false := by simpa using h2
                  rw [h1] at v0
                  clear h1 h2
                  go_wp2_with (go_at_call 71; refine (hH _).mono ?_; rintro r w4 ⟨rfl, hb4⟩; refine Hid.out ?_)
                  refine Lib.hid ?_
                  replace v0 := (hb4.cell (p := ⟨b, off + j * 5, none⟩) hlb').trans v0
                  replace v1 := (hb4.cell (p := ⟨b, off + j * 5 + 1, none⟩) hlb').trans v1
                  replace x2 := x2.below hb4; replace C2 := C2.below hb4; replace B2 := bel_then B2 hb4
                  clear hb4 z0 z1 z2 z3 z4
                  obtain ⟨z0, z1, _, _, _⟩ := x2.cells
                  obtain ⟨⟨o0, o1⟩, f0, f1⟩ := C2.out.cells
                  go_wp2_with fail
                  go_quiet (fail)
                  go_wp2_with fail
                  go_roundw
                  case rel => exact ⟨j + 1, by omega, by go_num, HX.out, x2, C2.below (below_drewN (Below.refl _ _) _), below_drewN B2 _⟩
                  case measure => simp [intOf]; omega
              · have HX : Hid (clash (ps.take (j + 1)) P.a P.b = false) := Lib.hid (by
                  obtain ⟨a, c⟩ := HQ.out
                  rw [clash_at a HC.out, c]; simp [h1])
                have hd : decide (Q.a = P.a) = false := by simpa using h1
                have hd2 : (Q.a == P.a) = false := by simpa using h1
                clear h1
                go_wp2_with (go_at_call 71; refine (hH _).mono ?_; rintro r w4 ⟨rfl, hb4⟩; refine Hid.out ?_)
                refine Lib.hid ?_
                replace v0 := (hb4.cell (p := ⟨b, off + j * 5, none⟩) hlb').trans v0
                replace v1 := (hb4.cell (p := ⟨b, off + j * 5 + 1, none⟩) hlb').trans v1
                replace x2 := x2.below hb4; replace C2 := C2.below hb4; replace B2 := bel_then B2 hb4
                clear hb4 z0 z1 z2 z3 z4
                obtain ⟨z0, z1, _, _, _⟩ := x2.cells
                obtain ⟨⟨o0, o1⟩, f0, f1⟩ := C2.out.cells
                go_wp2_with fail
                go_quiet (fail)
                go_wp2_with fail
                go_roundw
                case rel => exact ⟨j + 1, by omega, by go_num, HX.out, x2, C2.below (below_drewN (Below.refl _ _) _), below_drewN B2 _⟩
                case measure => simp [intOf]; omega
            · have hjk' : j = k := by omega
              have HCK : Hid (clash (ps.take k) P.a P.b = false) := Lib.hid (by rw [← hjk']; exact HC.out)
              have HNEW : Hid (fineTo ps (k + 1) = true ∧ ofU (ps.take (k + 1)) = takeU (ofU (ps.take k)) P.a P.b) := Lib.hid (by
                refine ⟨fine_more HK.out HF.out ?_, ?_⟩
                · rw [← HP.out]; unfold fineAt; rw [HOK.out, HCK.out]; simp
                · rw [ofU_more HK.out, ← HP.out]; unfold stepU; rw [if_neg (by rw [HH.out]; simp)])
              clear hjk'
              go_wp2_with (go_at_call 71; refine (hH _).mono ?_; rintro r w4 ⟨rfl, hb4⟩; refine Hid.out ?_)
              refine Lib.hid ?_
              replace x2 := x2.below hb4; replace C2 := C2.below hb4; replace B2 := bel_then B2 hb4
              clear hb4 z0 z1 z2 z3 z4
              obtain ⟨z0, z1, _, _, _⟩ := x2.cells
              rw [HN.out] at z0
              obtain ⟨⟨o0, o1⟩, f0, f1⟩ := C2.box.cells
              obtain ⟨h1, h2⟩ := HR.out
              obtain ⟨cp1, fp1⟩ := cell_own C2.r1 h1 h2
              have b1 := C2.box.set (p := ⟨p, n, none⟩) hL.gp (.int .i64 (x + 1))
              obtain ⟨⟨p0, p1⟩, _, _⟩ := b1.cells
              obtain ⟨⟨s0, s1⟩, _, _⟩ := (b1.set (p := ⟨q, n, none⟩) hL.gq (.int .i64 y)).cells
              have xx := x2.set (a := ⟨p, n, none⟩) (by show X ≠ p; omega) (.int .i64 (x + 1))
              obtain ⟨t0, t1, _, _, _⟩ := xx.cells
              rw [HN.out] at t0
              have q2 := C2.r2.kept (grown_set w4 ⟨p, n, none⟩ (.int .i64 (x + 1))) (.inr (by simpa [Value.ownBlock] using hL.pq.symm))
              obtain ⟨h3, h4⟩ := HL.out
              obtain ⟨cq1, fq1⟩ := cell_own q2 h3 h4
              clear h1 h2 h3 h4 b1 xx q2 s0 s1
              have hfin : ∀ z, z = max y P.b → Cnt w.heap.size G p q cp cq (ofU (ps.take (k + 1))) ((w4.setCell ⟨p, n, none⟩ (.int .i64 (x + 1))).setCell ⟨q, n, none⟩ (.int .i64 z)) := fun z hz => by
                have h := C2.take hL (n : Int) P.b (x := x + 1) (y := z) (by rw [HU.out]) (by rw [HU.out]; exact hz)
                rw [Int.toNat_natCast] at h
                rw [HNEW.out.2, HN.out]
                exact h
              have HFIN := Lib.hid hfin
              have hpz : ∀ z : Int, Below w.heap.size w ((w4.setCell ⟨p, n, none⟩ (.int .i64 (x + 1))).setCell ⟨q, n, none⟩ (.int .i64 z)) := fun z => (B2.setCell (p := ⟨p, n, none⟩) (by have := hL.p0; show w.heap.size ≤ p; omega) _).setCell (p := ⟨q, n, none⟩) (by have := hL.q0; show w.heap.size ≤ q; omega) _
              have HPZ := Lib.hid hpz
              clear hfin hpz
              obtain ⟨z, hz⟩ : ∃ z, z = max y P.b := ⟨_, rfl⟩
              have hmx : ∀ ts t W, (Builtin.max_ ts t #[.int .i64 y, .int .i64 P.b]).run Try.prog W = .ok (.int .i64 z) W := fun ts t W => by
                rw [hz, run_max2]
              have HZ := Lib.hid hz
              clear hz
              go_wp2_with fail
              go_region
              go_wp2_with fail
              have K0 : KR G X q cq n P.b (w4.setCell ⟨p, n, none⟩ (.int .i64 (x + 1))).drew.drew := ⟨p1, t0, t1⟩
              refine wp_region_held_drew (S := (fun W => W.cell? ⟨G, 1, none⟩ = some (.slice (some ⟨q, 0, none⟩) 64 cq) ∧ W.cell? ⟨X, 0, none⟩ = some (.int .i64 (n : Int)) ∧ W.cell? ⟨X, 1, none⟩ = some (.int .i64 P.b))) (by kernel_rfl) (show KR G X q cq n P.b _ from K0) (fun hHeld => ?_)
              refine wpAnyH_take (i := 0) (v := ?v0) rfl (by kernel_rfl) (by kernel_rfl) (by kernel_rfl) (fun _ _ _ h => h) (Or.inl ⟨by rfl, ?hy0⟩) (by assumption) ?rest0
              case hy0 => (intro W hSw; (try dsimp only at hSw); go_simp <;> with_reducible rfl)
              try simp only [Act.put, List.setIfInBounds_toArray, List.set_cons_zero, List.set_cons_succ]
              refine wpAnyH_take (i := 1) (v := ?v1) rfl (by kernel_rfl) (by kernel_rfl) (by kernel_rfl) (fun _ _ _ h => h) (Or.inl ⟨by rfl, ?hy1⟩) (by assumption) ?rest1
              case hy1 => (intro W hSw; (try dsimp only at hSw); go_simp <;> with_reducible rfl)
              try simp only [Act.put, List.setIfInBounds_toArray, List.set_cons_zero, List.set_cons_succ]
              refine wpAnyH_take (i := 2) (v := ?v2) rfl (by kernel_rfl) (by kernel_rfl) (by kernel_rfl) (fun _ _ _ h => h) (Or.inl ⟨by rfl, ?hy2⟩) (by assumption) ?rest2
              case hy2 => (intro W hSw; (try dsimp only at hSw); go_simp <;> with_reducible rfl)
              try simp only [Act.put, List.setIfInBounds_toArray, List.set_cons_zero, List.set_cons_succ]
              refine wpAnyH_take (i := 3) (v := ?v3) rfl (by kernel_rfl) (by kernel_rfl) (by kernel_rfl) (fun _ _ _ h => h) (Or.inl ⟨by rfl, ?hy3⟩) (by assumption) ?rest3
              case hy3 => (intro W hSw; (try dsimp only at hSw); go_simp <;> with_reducible rfl)
              try simp only [Act.put, List.setIfInBounds_toArray, List.set_cons_zero, List.set_cons_succ]
              refine wpAnyH_take (i := 4) (v := ?v4) rfl (by kernel_rfl) (by kernel_rfl) (by kernel_rfl) (fun _ _ _ h => h) (Or.inl ⟨by rfl, ?hy4⟩) (by assumption) ?rest4
              case hy4 => (intro W hSw; (try dsimp only at hSw); go_simp <;> with_reducible rfl)
              try simp only [Act.put, List.setIfInBounds_toArray, List.set_cons_zero, List.set_cons_succ]
              refine wpAnyH_take (i := 5) (v := ?v5) rfl (by kernel_rfl) (by kernel_rfl) (by kernel_rfl) (fun _ _ _ h => h) (Or.inl ⟨by rfl, ?hy5⟩) (by assumption) ?rest5
              case hy5 => (intro W hSw; (try dsimp only at hSw); go_simp <;> with_reducible rfl)
              try simp only [Act.put, List.setIfInBounds_toArray, List.set_cons_zero, List.set_cons_succ]
              refine wpAnyH_take (i := 6) (v := ?v6) rfl (by kernel_rfl) (by kernel_rfl) (by kernel_rfl) (fun _ _ _ h => h) (Or.inl ⟨by rfl, ?hy6⟩) (by assumption) ?rest6
              case hy6 => (intro W hSw; (try dsimp only at hSw); go_simp <;> with_reducible rfl)
              try simp only [Act.put, List.setIfInBounds_toArray, List.set_cons_zero, List.set_cons_succ]
              refine wpAnyH_take (i := 7) (v := ?v7) rfl (by kernel_rfl) (by kernel_rfl) (by kernel_rfl) (fun _ _ _ h => h) (Or.inl ⟨by rfl, ?hy7⟩) (by assumption) ?rest7
              case hy7 => (intro W hSw; (try dsimp only at hSw); go_simp <;> with_reducible rfl)
              try simp only [Act.put, List.setIfInBounds_toArray, List.set_cons_zero, List.set_cons_succ]
              refine wpAnyH_take (i := 8) (v := ?v8) rfl (by kernel_rfl) (by kernel_rfl) (by kernel_rfl) (fun _ _ _ h => h) (Or.inl ⟨by rfl, ?hy8⟩) (by assumption) ?rest8
              case hy8 => (intro W hSw; (try dsimp only at hSw); go_simp <;> with_reducible rfl)
              try simp only [Act.put, List.setIfInBounds_toArray, List.set_cons_zero, List.set_cons_succ]
              refine wpAnyH_take (i := 10) (v := ?v10) rfl (by kernel_rfl) (by kernel_rfl) (by kernel_rfl) (fun _ _ _ h => h) (Or.inl ⟨by rfl, ?hy10⟩) (by assumption) ?rest10
              case hy10 => (intro W hSw; (try dsimp only at hSw); go_simp <;> with_reducible rfl)
              try simp only [Act.put, List.setIfInBounds_toArray, List.set_cons_zero, List.set_cons_succ]
              refine wpAnyH_take (i := 11) (v := ?v11) rfl (by kernel_rfl) (by kernel_rfl) (by kernel_rfl) (fun _ _ _ h => h) (Or.inl ⟨by rfl, ?hy11⟩) (by assumption) ?rest11
              case hy11 => (intro W hSw; (try dsimp only at hSw); go_simp <;> with_reducible rfl)
              try simp only [Act.put, List.setIfInBounds_toArray, List.set_cons_zero, List.set_cons_succ]
              refine wpAnyH_ready (rs := [9]) (by kernel_rfl) (by simp) ?_
              refine AllReadyH.cons rfl (fun K hK => ?_) AllReadyH.nil
              go_simp
              refine hK.out _ _ (show KR G X q cq n P.b _ from K0) (fun hHeld => ?_)
              clear hK K
              try simp only [Act.put, List.setIfInBounds_toArray, List.set_cons_zero, List.set_cons_succ]
              refine wpAnyH_ready (rs := [12]) (by kernel_rfl) (by simp) ?_
              refine AllReadyH.cons rfl (fun K hK => ?_) AllReadyH.nil
              go_simp
              refine hK.out _ _ (show KR G X q cq n P.b _ from K0) (fun hHeld => ?_)
              clear hK K
              try simp only [Act.put, List.setIfInBounds_toArray, List.set_cons_zero, List.set_cons_succ]
              refine wpAnyH_take (i := 13) (v := ?v13) rfl (by kernel_rfl) (by kernel_rfl) (by kernel_rfl) (fun _ _ _ h => h) (Or.inl ⟨by rfl, ?hy13⟩) (by assumption) ?rest13
              case hy13 => (intro W hSw; (try dsimp only at hSw); go_simp <;> with_reducible rfl)
              try simp only [Act.put, List.setIfInBounds_toArray, List.set_cons_zero, List.set_cons_succ]
              refine wpAnyH_ready (rs := [14]) (by kernel_rfl) (by simp) ?_
              refine AllReadyH.cons rfl (fun K hK => ?_) AllReadyH.nil
              go_simp
              refine hK.out _ _ (show KR G X q cq n P.b _ from K0.store hL.gq (by omega) _) (fun hHeld => ?_)
              clear hK K
              try simp only [Act.put, List.setIfInBounds_toArray, List.set_cons_zero, List.set_cons_succ]
              refine wpAnyH_done (by kernel_rfl) ?_ _
              go_wp2_with fail
              go_roundw
              case rel => exact ⟨k + 1, by have := HK.out; omega, by go_num, HNEW.out.1, (HFIN.out _ HZ.out).drew.drew, (HPZ.out _).drew.drew⟩
              case measure => have := HK.out; simp [intOf]; omega
    · have hke : k = ps.length := by omega
      subst hke
      have HT : Hid (ofS ps = (spOf (ofU ps), true)) := Lib.hid (fine_yes hF rfl)
      have hlen := (Few.of (Nat.le_refl _) hF).len
      rw [List.take_length] at hC hlen
      have hl := spOf_len hlen
      obtain ⟨⟨o0, o1⟩, f0, f1⟩ := hC.out.cells
      obtain ⟨⟨g0, g1⟩, _, _⟩ := hC.box.cells
      have HL := Lib.hid hl
      have HO := Lib.hid (SpOwn.mk2 (s := spOf (ofU ps)) (c := cp) (e := cq) (W := wr) (base := w.heap.size + 1) hL.pq (by rw [hl.1]; exact hC.r1) (by rw [hl.2]; exact hC.r2))
      clear hl hlen hF hA
      go_wp2_with fail
      refine bodyPost_ret (v := .tuple #[.agg #[.slice (some ⟨p, 0, none⟩) 64 cp, .slice (some ⟨q, 0, none⟩) 64 cq], .bool true]) (by simp [results, Try.f39, go_sem, o0, o1]) rfl ?_
      rw [HT.out]
      have h := HO.out
      rw [HL.out.1, HL.out.2] at h
      exact SPost.mk2 HL.out.1.symm HL.out.2.symm (((h.set (p := ⟨w.heap.size, 0, none⟩) (Nat.lt_succ_self _) _).set (p := ⟨w.heap.size, 1, none⟩) (Nat.lt_succ_self _) _).base (Nat.le_succ _)) ((hB.setCell (p := ⟨w.heap.size, 0, none⟩) (Nat.le_refl _) _).setCell (p := ⟨w.heap.size, 1, none⟩) (Nat.le_refl _) _)
end Go.Proofs.Ytlmemjfinpccoaa
