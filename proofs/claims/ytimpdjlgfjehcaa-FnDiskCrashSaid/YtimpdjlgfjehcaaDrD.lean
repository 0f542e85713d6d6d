/-
  l91Disk: a disk is drawn.
-/
import Derived.Test.YtimpdjlgfjehcaaME
namespace Go.Proofs.Ytimpdjlgfjehcaa
open Go.RowKit

/-- The first cell, the second cell is told. -/
def C0 (g3 : Nat) (v : Value) (W : World) : Prop := W.cell? ⟨g3, 0, none⟩ = some v
def C1 (g3 : Nat) (v : Value) (W : World) : Prop := W.cell? ⟨g3, 1, none⟩ = some v
theorem own_cell {w : World} {base g c n : Nat} {t : TypeId} {cs : List ByteArray} (h : w.ownsRow base t 1 (.slice (some ⟨g, 0, none⟩) n c) n (strCells cs)) (k : Nat) (hk : k < cs.length) : ∃ v, w.cell? ⟨g, k, none⟩ = some (.string v) := by
  have hl := h.1
  rw [strCells_len, Nat.mul_one] at hl
  exact ⟨cs[k], by rw [h.cellAt k (by omega)]; exact strCells_at _ k hk⟩
theorem new_small : ∀ s ∈ newD.cells, s.size ≤ 1000 := fun s hs => by
  rw [List.eq_of_mem_replicate (show s ∈ List.replicate 64 none8 from hs)]
  decide

set_option maxRecDepth 100000 in
set_option maxHeartbeats 8000000 in
theorem disk_gr (w0 w : World) (B : Nat) (A : Option Addr) (m cap p : Nat) (h : IsRd w0 w B A m cap p) (hp : p ≤ 10000) :
    Calls Try.prog 21 #[.pointer (some ⟨B, 0, none⟩)] w (DrPost w0 w B A m cap p) := by
  obtain ⟨j0, hjj0, hy0, hy1, hy2⟩ := info_parts Try.info32
  have hK := fun o => pick_rd w0 (w.alloc o) B A m cap p 12 (h.alloc o) (by omega) (by omega) (by omega)
  have hw0 := h.bel.size
  have hBl := h.lt
  clear h
  go_enter Try.func21, Try.ntmps21
  go_wp2_with (go_at_call 23; refine (hK _).mono ?_; rintro r w1 ⟨x, x0, x1, rfl, h1, g1⟩; refine Hid.out ?_)
  refine Lib.hid ?_
  have br := (Bx.new w 26 (.slice none 0 0) (.slice none 0 0) (.bool false)).grown g1 (fun e => by injection e with e; omega)
  have s1 := g1.size
  rw [World.size_alloc] at s1
  have G1 := (World.grownBy_alloc w (.cells #[.slice none 0 0, .slice none 0 0, .bool false] 26) (some B)).trans g1
  clear hK g1
  by_cases hx : x = 0
  · subst hx
    have hL := spec_lose w1
    go_wp2_with (go_at_call 38; refine hL.mono ?_; rintro r w2 ⟨A3, c3, B3, e3, rfl, o3, hb3⟩; refine Hid.out ?_)
    refine Lib.hid ?_
    have br2 := br.below hb3
    obtain ⟨⟨y0, y1, y2⟩, f0, f1, f2⟩ := br2.cells
    have hr2 := h1.past hb3
    have G2 := G1.trans (below_grown hb3 (some B))
    clear hL br
    go_wp2_with fail
    refine bodyPost_ret (v := .agg #[.slice A3 loseD.cells.length c3, .slice B3 loseD.waits.length e3, .bool loseD.gone]) (by simp [results, Try.f21, go_sem, y0, y1, y2]) rfl ?_
    refine ⟨loseD, A3, c3, B3, e3, p + 1, rfl, (o3.box (R := w.heap.size) (by omega) _ _ _).lies, ⟨by decide, by decide, fun s hs => ?_, fun x hx => by cases hx⟩, ((hr2.set hw0 (by omega) 0 _).set hw0 (by omega) 1 _).set hw0 (by omega) 2 _, by omega, grown_set (grown_set (grown_set G2 (Nat.le_refl _) 0 _) (Nat.le_refl _) 1 _) (Nat.le_refl _) 2 _⟩
    have := new_small s hs
    unfold maxLen
    omega
  have hx' : (x == 0) = false := by simpa using hx
  have hN := spec_new w1
  go_wp2_with (go_at_call 39; refine hN.mono ?_; rintro r w2 ⟨A3, c3, B3, e3, rfl, o3, hb3⟩; refine Hid.out ?_)
  refine Lib.hid ?_
  have s2 := hb3.size
  have bl : Below w2.heap.size w2 (w2.alloc (.cells #[.slice A3 newD.cells.length c3, .slice B3 newD.waits.length e3, .bool newD.gone] 26)) := bel_new (Below.refl _ _) _
  have D0 : DS w0 w B A m cap w2.heap.size w1.heap.size (p + 1) A3 c3 B3 e3 newD (w2.alloc (.cells #[.slice A3 newD.cells.length c3, .slice B3 newD.waits.length e3, .bool newD.gone] 26)) :=
    ⟨Bx.new _ _ _ _ _, (br.below hb3).below bl, o3.below bl, ⟨p + 1, Nat.le_refl _, (h1.past hb3).past bl⟩, (G1.trans (below_grown hb3 (some B))).trans (below_grown bl (some B)), new_small, fun x hx => by cases hx⟩
  have hl64 : newD.cells.length = 64 := rfl
  have hl0 : newD.waits.length = 0 := rfl
  obtain ⟨N, hN'⟩ : ∃ N, N = newD := ⟨_, rfl⟩
  have h64 : N.cells.length = 64 := by rw [hN']; rfl
  have h0 : N.waits.length = 0 := by rw [hN']; rfl
  rw [← hN'] at D0 ⊢
  have H64 := Lib.hid h64
  have H0 := Lib.hid h0
  obtain ⟨pq, hpq, hr4⟩ := D0.rd
  have hK2 := fun o => pick_rd w0 (w2.alloc o) B A m cap (p + 1) 8 ((h1.past hb3).alloc o) (by omega) (by omega) (by omega)
  clear hN' h64 h0 hl64 hl0 hN o3 hb3 bl br h1 G1 hx hx' pq hpq hr4
  go_wp2_with (go_at_call 23; refine (hK2 _).mono ?_; rintro r w4 ⟨x4, x40, x41, rfl, h4, g4⟩; refine Hid.out ?_)
  refine Lib.hid ?_
  have D4 := D0.read h4 (Q := p + 2) (by omega) g4
  clear hK2 D0 h4 g4
  obtain ⟨j4, rfl⟩ : ∃ j : Nat, x4 = (j : Int) := ⟨x4.toNat, by omega⟩
  have hj4 : j4 ≤ 7 := by omega
  clear x40 x41
  go_wp2_with fail
  go_loopw [4] (fun i wr => ∃ (j : Nat) (Av : Option Addr) (c : Nat) (Bv : Option Addr) (e : Nat) (d : Dk), j ≤ 7 ∧ i = .int .i64 j ∧ d.cells.length = 64 ∧ d.waits.length = 0 ∧ DS w0 w B A m cap w2.heap.size w1.heap.size (p + 2 + 21 * (7 - j)) Av c Bv e d wr) (fun i _ => (intOf i).toNat)
  case atStart => exact ⟨j4, A3, c3, B3, e3, N, hj4, rfl, H64.out, H0.out, D4.more (by omega)⟩
  case round =>
    clear D4
    obtain ⟨j, Av, c, Bv, e, d, hj, rfl, hd64, hd0, D⟩ := hrel
    have H64 := Lib.hid hd64
    have H0 := Lib.hid hd0
    clear hd64 hd0
    by_cases hj0 : 0 < j
    · obtain ⟨i, rfl⟩ : ∃ i, j = i + 1 := ⟨j - 1, by omega⟩
      have hjI : (0 : Int) < ((i + 1 : Nat) : Int) := by omega
      have hw1 := IntWalk.i64_in (((i + 1 : Nat) : Int) - 1) (by omega)
      have hw2 : ((i + 1 : Nat) : Int) - 1 = (i : Int) := by omega
      obtain ⟨tt, htt, o1, o2⟩ := D.own.rows
      obtain ⟨g, rfl⟩ := own_addr o1 (by have := H64.out; omega)
      obtain ⟨⟨x0, x1, x2⟩, _⟩ := D.bx.cells
      have Dd := D.drew
      have cd := (show C0 w2.heap.size (.slice (some ⟨g, 0, none⟩) d.cells.length c) wr.drew from x0)
      obtain ⟨pr, hpr, hrd⟩ := Dd.rd
      have hK := pick_rd w0 wr.drew B A m cap pr 64 hrd (by omega) (by omega) (by omega)
      clear o1 o2 x1 x2
      go_upto_region 7 with fail
      go_region_held3 (fun W => W.cell? ⟨w2.heap.size, 0, none⟩ = some (.slice (some ⟨g, 0, none⟩) d.cells.length c))
        ((show C0 w2.heap.size (.slice (some ⟨g, 0, none⟩) d.cells.length c) _; with_reducible (first | exact cd | exact c4 | exact c5 | exact c6)))
        (first
          | (go_at_call 23; refine hK.mono ?_; rintro r w5 ⟨y, y0, y1, rfl, h5, g5⟩; obtain ⟨k, rfl⟩ : ∃ k : Nat, y = (k : Int) := ⟨y.toNat, by omega⟩; have hkI : (k : Int) < (d.cells.length : Int) := (by have := H64.out; omega); have D5 := Dd.read h5 (Q := p + 2 + 21 * (7 - (i + 1)) + 1) (by omega) g5; have c4 := (show C0 w2.heap.size (.slice (some ⟨g, 0, none⟩) d.cells.length c) w5 from D5.bx.cells.1.1); have hT := text_gr w0 w5 B A m cap (pr + 1) 9 h5 (by omega) (by omega))
          | (go_at_call 40; refine hT.mono ?_; rintro r w6 ⟨s, p', rfl, hs, h6, hp6, g6⟩; have D6 := D5.read h6 (Q := p + 2 + 21 * (7 - i)) (by omega) g6; have c5 := (show C0 w2.heap.size (.slice (some ⟨g, 0, none⟩) d.cells.length c) w6 from D6.bx.cells.1.1); obtain ⟨t6, ht6, q1, q2⟩ := D6.own.rows; have hf := q1.frozenAt k; obtain ⟨old, hc⟩ := own_cell q1 k (by have := H64.out; omega); have D7 := D6.put (by omega) (by omega) (by have := H64.out; omega) k s (by omega); have c6 := (show C0 w2.heap.size (.slice (some ⟨g, 0, none⟩) d.cells.length c) (w6.setCell ⟨g, k, none⟩ (.string s)) from (by have := D7.bx.cells.1.1; simp only [List.length_set] at this; exact this))))
      go_wp2_with fail
      go_roundw
      case rel => exact ⟨i, some ⟨g, 0, none⟩, c, Bv, e, ⟨d.cells.set k s, d.waits, d.gone⟩, by omega, by go_num, by simp only [List.length_set]; exact H64.out, H0.out, D7⟩
      case measure => simp [intOf]
    · obtain rfl : j = 0 := by omega
      have D := D.more (Q := p + 200) (by omega)
      obtain ⟨pr, hpr, hrd⟩ := D.rd
      have hK := pick_rd w0 wr B A m cap pr 7 hrd (by omega) (by omega) (by omega)
      go_wp2_with (go_at_call 23; refine hK.mono ?_; rintro r w5 ⟨y, y0, y1, rfl, h5, g5⟩; refine Hid.out ?_)
      refine Lib.hid ?_
      have D5 := D.read h5 (Q := p + 201) (by omega) g5
      obtain ⟨j5, rfl⟩ : ∃ j : Nat, y = (j : Int) := ⟨y.toNat, by omega⟩
      have hj5 : j5 ≤ 6 := by omega
      clear hK D h5 g5 hrd y0 y1 hpr
      go_wp2_with fail
      go_loopw [5] (fun i wr => ∃ (j : Nat) (Av : Option Addr) (c : Nat) (Bv : Option Addr) (e : Nat) (d : Dk), j ≤ 6 ∧ i = .int .i64 j ∧ d.cells.length = 64 ∧ d.waits.length + j ≤ 6 ∧ DS w0 w B A m cap w2.heap.size w1.heap.size (p + 201 + 21 * (6 - j)) Av c Bv e d wr) (fun i _ => (intOf i).toNat)
      case atStart => exact ⟨j5, Av, c, Bv, e, d, hj5, rfl, H64.out, by have := H0.out; omega, D5.more (by omega)⟩
      case round =>
        clear D5
        obtain ⟨jj, Av', c', Bv', e', d', hjj, rfl, hd64, hdw, D⟩ := hrel
        have H64 := Lib.hid hd64
        clear hd64
        by_cases hj0 : 0 < jj
        · obtain ⟨i, rfl⟩ : ∃ i, jj = i + 1 := ⟨jj - 1, by omega⟩
          have hjI : (0 : Int) < ((i + 1 : Nat) : Int) := by omega
          have hw1 := IntWalk.i64_in (((i + 1 : Nat) : Int) - 1) (by omega)
          have hw2 : ((i + 1 : Nat) : Int) - 1 = (i : Int) := by omega
          have Dd := D.drew
          obtain ⟨pr, hpr, hrd⟩ := Dd.rd
          have hK := pick_rd w0 wr.drew B A m cap pr 14 hrd (by omega) (by omega) (by omega)
          obtain ⟨_, x1, _⟩ := Dd.bx.cells.1
          go_upto_region 11 with fail
          go_region_law (first
            | (go_simp; go_at_call 23; refine hK.mono ?_; rintro r w5 ⟨y, y0, y1, rfl, h5, g5⟩; have D5 := Dd.read h5 (Q := p + 201 + 21 * (6 - (i + 1)) + 1) (by omega) g5; obtain ⟨_, z1, _⟩ := D5.bx.cells.1; have hT := text_gr w0 w5 B A m cap (pr + 1) 9 h5 (by omega) (by omega))
            | (go_simp; go_at_call 40; refine hT.mono ?_; rintro r w6 ⟨s, p', rfl, hs, h6, hp6, g6⟩; have D6 := D5.read h6 (Q := p + 201 + 21 * (6 - i)) (by omega) g6; obtain ⟨_, u1, _⟩ := D6.bx.cells.1; obtain ⟨t6, ht6, q1, q2⟩ := D6.own.rows; have q2b := q2.alloc (.cells #[.int .i64 y, .string s] 32); have HL := lies_two w6 y s; have bl6 := D6.bx.lt; have bxa := D6.bx.alloc (.cells #[.int .i64 y, .string s] 32); obtain ⟨_, v1, _⟩ := bxa.cells.1)
            | (refine step_append_lies2 _ rfl (.tmp 31) (.tmp 37) 24 rfl w1.heap.size 32 j0 (.agg #[.int .i64 0, .string ⟨#[]⟩]) 2 24 Try.underlying24 hjj0 hy0 hy1 hy2 rfl (by decide) (.slice Bv' d'.waits.length e') _ _ rfl q2b (some ⟨w6.heap.size, 0, none⟩) 1 1 [.int .i64 y, .string s] rfl rfl HL (by simp [Value.oneCell']) (by unfold maxLen; omega) (by omega) (by simp; omega) ?_; intro v7 w7 o7 g7; rw [← wt_snoc] at o7; obtain ⟨B7, e7, rfl, _⟩ := own_lies o7; have bx7 := bxa.grown g7 (own_ne_box q2b bxa (by decide)).symm; obtain ⟨⟨_, t1, _⟩, _, f1, _⟩ := bx7.cells; have D7 := D6.app (by omega) (by omega) (by omega) (by omega) ((World.grownBy_alloc w6 _ _).trans g7) ⟨y, s⟩ (by show s.size ≤ 1000; omega) B7 e7 o7))
          all_goals go_wp2_with fail
          all_goals go_roundw
          case measure => simp [intOf]
          case measure => simp [intOf]
          case measure => simp [intOf]
          case measure => simp [intOf]
          all_goals exact ⟨i, Av', c', B7, e7, ⟨d'.cells, d'.waits ++ [⟨y, s⟩], d'.gone⟩, by omega, by go_num, H64.out, by simp; omega, D7⟩
        · obtain rfl : jj = 0 := by omega
          have D := D.more (Q := p + 400) (by omega)
          have hdw6 : d'.waits.length ≤ 6 := by omega
          have hR : w.heap.size < w1.heap.size := by omega
          have h3R : w.heap.size < w2.heap.size := by omega
          have h03 : w0.heap.size ≤ w2.heap.size := by omega
          obtain ⟨pr, hpr, hrd⟩ := D.rd
          have hK := pick_rd w0 wr B A m cap pr 30 hrd (by omega) (by omega) (by omega)
          clear hdw
          go_wp2_with (go_at_call 23; refine hK.mono ?_; rintro r w5 ⟨y, y0, y1, rfl, h5, g5⟩; refine Hid.out ?_)
          refine Lib.hid ?_
          have D5 := D.read h5 (Q := p + 401) (by omega) g5
          clear hK D h5 g5 hrd hpr
          obtain ⟨tt, htt, o1, o2⟩ := D5.own.rows
          obtain ⟨g, rfl⟩ := own_addr o1 (by have := H64.out; omega)
          by_cases e0 : y = 0
          · subst e0
            have HF := D5.fin0 (p := p) hR hw0 h3R (by omega) H64.out (by omega)
            obtain ⟨⟨x0, x1, x2⟩, _⟩ := D5.bx.cells
            obtain ⟨⟨z0, z1, z2⟩, _⟩ := D5.br.cells
            have hcap := own_cap o1
            have h64 := H64.out
            rw [h64] at x0 hcap
            clear h64 o1 o2
            go_wp2_with fail
            refine bodyPost_ret (v := .agg #[.slice (some ⟨g, 1, none⟩) 63 (c' - 1), .slice Bv' d'.waits.length e', .bool d'.gone]) (by simp [results, Try.f21, go_sem, z0, z1, z2]) rfl ?_
            exact HF _ _ _ _ _
          by_cases e1 : y = 1
          · subst e1
            have HF := (D5.go h03 h3R).fin (p := p) hR hw0 (by omega) (by have := H64.out; show d'.cells.length ≤ 64; omega) (by show d'.waits.length ≤ 200; omega)
            obtain ⟨⟨x0, x1, x2⟩, _⟩ := D5.bx.cells
            obtain ⟨⟨z0, z1, z2⟩, _⟩ := D5.br.cells
            clear o1 o2
            go_wp2_with fail
            refine bodyPost_ret (v := .agg #[.slice (some ⟨g, 0, none⟩) d'.cells.length c', .slice Bv' d'.waits.length e', .bool true]) (by simp [results, Try.f21, go_sem, z0, z1, z2]) rfl ?_
            exact HF _ _ _
          by_cases e2 : y = 2
          · subst e2
            have Dd := D5.drew
            obtain ⟨pr, hpr, hrd⟩ := Dd.rd
            have hKa := pick_rd w0 w5.drew B A m cap pr 2 hrd (by omega) (by omega) (by omega)
            have hKb := fun o => pick_rd w0 (w5.drew.alloc o) B A m cap pr 2 (hrd.alloc o) (by omega) (by omega) (by omega)
            obtain ⟨_, x1, _⟩ := Dd.bx.cells.1
            have Dl := Dd.alloc (.cells #[.int .i64 (-1), .int .i64 64] 3)
            obtain ⟨_, xl1, _⟩ := Dl.bx.cells.1
            obtain ⟨_, xm1, _⟩ := (D5.alloc (.cells #[.int .i64 (-1), .int .i64 64] 3)).bx.cells.1
            have hBd := hrd.lt
            clear o1 o2
            go_upto_region 18 with fail
            go_region_law (first
              | (go_simp; go_at_call 23; refine hKa.mono ?_; rintro r w6 ⟨z, z0, z1, rfl, h6, g6⟩; obtain ⟨k, rfl⟩ : ∃ k : Nat, z = (k : Int) := ⟨z.toNat, by omega⟩; have D6p := Dd.read h6 (Q := p + 402) (by omega) g6; obtain ⟨_, u1, _⟩ := D6p.bx.cells.1; have D6 := D6p.alloc (.cells #[.int .i64 (-1), .int .i64 64] 3); obtain ⟨_, ul1, _⟩ := D6.bx.cells.1; obtain ⟨zz, hzz, hc⟩ := lit2 w6 _ B (-1) 64 h6.lt (grown_self _ _) k (by omega); obtain ⟨t6, ht6, q1, q2⟩ := D6.own.rows; have q2b := q2.alloc (.cells #[.int .i64 zz, .string ⟨#[119]⟩] 32); have HL := lies_two (w6.alloc (.cells #[.int .i64 (-1), .int .i64 64] 3)) zz ⟨#[119]⟩; (try rw [World.size_alloc] at HL); have bl6 := D6.bx.lt; (try rw [World.size_alloc] at bl6); have bxa := D6.bx.alloc (.cells #[.int .i64 zz, .string ⟨#[119]⟩] 32); obtain ⟨_, v1, _⟩ := bxa.cells.1)
              | (go_simp; go_at_call 23; refine (hKb _).mono ?_; rintro r w6 ⟨z, z0, z1, rfl, h6, g6⟩; obtain ⟨k, rfl⟩ : ∃ k : Nat, z = (k : Int) := ⟨z.toNat, by omega⟩; have D6 := Dl.read h6 (Q := p + 402) (by omega) g6; obtain ⟨_, ul1, _⟩ := D6.bx.cells.1; obtain ⟨zz, hzz, hc⟩ : ∃ y : Int, (y = -1 ∨ y = 64) ∧ w6.cell? ⟨w5.heap.size, k, none⟩ = some (.int .i64 y) := lit2 w5.drew w6 B (-1) 64 hBd g6 k (by omega); obtain ⟨t6, ht6, q1, q2⟩ := D6.own.rows; have q2b := q2.alloc (.cells #[.int .i64 zz, .string ⟨#[119]⟩] 32); have HL := lies_two w6 zz ⟨#[119]⟩; (try rw [World.size_alloc] at HL); have bl6 := D6.bx.lt; (try rw [World.size_alloc] at bl6); have bxa := D6.bx.alloc (.cells #[.int .i64 zz, .string ⟨#[119]⟩] 32); obtain ⟨_, v1, _⟩ := bxa.cells.1)
              | (refine step_append_lies2 _ rfl (.tmp 54) (.tmp 61) 24 rfl w1.heap.size 32 j0 (.agg #[.int .i64 0, .string ⟨#[]⟩]) 2 24 Try.underlying24 hjj0 hy0 hy1 hy2 rfl (by decide) (.slice Bv' d'.waits.length e') _ _ rfl q2b _ 1 1 [.int .i64 zz, .string ⟨#[119]⟩] rfl rfl HL (by simp [Value.oneCell']) (by unfold maxLen; omega) (by omega) (by simp; omega) ?_; intro v7 w7 o7 g7; rw [← wt_snoc] at o7; obtain ⟨B7, e7, rfl, _⟩ := own_lies o7; have bx7 := bxa.grown g7 (own_ne_box q2b bxa (by decide)).symm; obtain ⟨⟨_, t1, _⟩, _, f1, _⟩ := bx7.cells; have D7 := D6.app (by omega) (by omega) (by omega) (by omega) ((World.grownBy_alloc _ _ _).trans g7) ⟨zz, ⟨#[119]⟩⟩ (show (1 : Nat) ≤ 1000 by decide) B7 e7 o7))
            all_goals (obtain ⟨⟨a0, a1, a2⟩, _⟩ := D7.bx.cells; obtain ⟨⟨b0, b1, b2⟩, _⟩ := D7.br.cells; go_wp2_with fail)
            all_goals (refine bodyPost_ret (v := .agg #[.slice (some ⟨g, 0, none⟩) d'.cells.length c', .slice B7 (d'.waits ++ [Wt.mk zz ⟨#[119]⟩]).length e7, .bool d'.gone]) (by simp [results, Try.f21, go_sem, b0, b1, b2]) rfl ?_; exact D7.fin (p := p) hR hw0 (by omega) (by have := H64.out; show d'.cells.length ≤ 64; omega) (by show (d'.waits ++ [_]).length ≤ 200; rw [List.length_append, List.length_singleton]; omega) _ _ _)
          by_cases e3 : y = 3
          · subst e3
            have Dd := D5.drew
            obtain ⟨pr, hpr, hrd⟩ := Dd.rd
            have hK := pick_rd w0 w5.drew B A m cap pr 2 hrd (by omega) (by omega) (by omega)
            obtain ⟨⟨x0, x1, x2⟩, _⟩ := Dd.bx.cells
            have cd := (show C0 w2.heap.size (.slice (some ⟨g, 0, none⟩) d'.cells.length c') w5.drew from x0)
            have h3I : (3 : Int) < (d'.cells.length : Int) := by have := H64.out; omega
            clear o1 o2 x1 x2
            go_upto_region 20 with fail
            go_region_held3 (fun W => W.cell? ⟨w2.heap.size, 0, none⟩ = some (.slice (some ⟨g, 0, none⟩) d'.cells.length c'))
              ((show C0 w2.heap.size (.slice (some ⟨g, 0, none⟩) d'.cells.length c') _; with_reducible (first | exact cd | exact c4 | exact c6)))
              (first
                | (go_at_call 23; refine hK.mono ?_; rintro r w6 ⟨z, z0, z1, rfl, h6, g6⟩; obtain ⟨k, rfl⟩ : ∃ k : Nat, z = (k : Int) := ⟨z.toNat, by omega⟩; have hwk := IntWalk.i64_in (200 + (k : Int)) (by omega); have D6 := Dd.read h6 (Q := p + 402) (by omega) g6; have c4 := (show C0 w2.heap.size (.slice (some ⟨g, 0, none⟩) d'.cells.length c') w6 from D6.bx.cells.1.1); have hM : Calls Try.prog 41 #[.string ⟨#[121]⟩, .int .i64 (200 + (k : Int))] w6 fun r w' => (∃ t : ByteArray, r = .returned (.string t) ∧ t.size ≤ 1000) ∧ w' = w6 := many_any [121] (200 + k) w6 (by simp; omega) (by omega))
                | (go_at_call 41; refine hM.mono ?_; rintro r w7 ⟨⟨s, rfl, hs⟩, rfl⟩; obtain ⟨t6, ht6, q1, q2⟩ := D6.own.rows; have hf := q1.frozenAt 3; obtain ⟨old, hc⟩ := own_cell q1 3 (by have := H64.out; omega); have D7 := D6.put (by omega) (by omega) (by have := H64.out; omega) 3 s hs; have c6 := (show C0 w2.heap.size (.slice (some ⟨g, 0, none⟩) d'.cells.length c') (w7.setCell ⟨g, 3, none⟩ (.string s)) from (by have := D7.bx.cells.1.1; simp only [List.length_set] at this; exact this))))
            obtain ⟨⟨a0, a1, a2⟩, _⟩ := D7.bx.cells
            obtain ⟨⟨b0, b1, b2⟩, _⟩ := D7.br.cells
            go_wp2_with fail
            refine bodyPost_ret (v := .agg #[.slice (some ⟨g, 0, none⟩) (d'.cells.set 3 s).length c', .slice Bv' d'.waits.length e', .bool d'.gone]) (by simp [results, Try.f21, go_sem, b0, b1, b2]) rfl ?_
            exact D7.fin (p := p) hR hw0 (by omega) (by have := H64.out; show (d'.cells.set 3 s).length ≤ 64; rw [List.length_set]; omega) (by show d'.waits.length ≤ 200; omega) _ _ _
          by_cases e4 : y = 4
          · subst e4
            clear o1 o2
            go_wp2_with fail
            go_loopw [] (fun wr => ∃ (ws : List Wt) (Bw : Option Addr) (ew : Nat), ws.length ≤ 121 ∧ DS w0 w B A m cap w2.heap.size w1.heap.size (p + 402 + ws.length) (some ⟨g, 0, none⟩) c' Bw ew ⟨d'.cells, ws, d'.gone⟩ wr) (fun wr => match wr.cell? ⟨w2.heap.size, 1, none⟩ with | some (.slice _ n _) => 200 - n | _ => 0)
            case atStart => exact ⟨d'.waits, Bv', e', by omega, D5.more (by omega)⟩
            case round =>
              clear D5
              obtain ⟨ws, Bw, ew, hws, D⟩ := hrel
              have Dd := D.drew
              obtain ⟨pr, hpr, hrd⟩ := Dd.rd
              have hpr' : pr ≤ p + 402 + ws.length := hpr
              have hK := pick_rd w0 wr.drew B A m cap pr 2 hrd (by omega) (by omega) (by omega)
              obtain ⟨_, x1, _⟩ := Dd.bx.cells.1
              have cd := (show C1 w2.heap.size (.slice Bw ws.length ew) wr.drew from x1)
              go_upto_region 22 with fail
              go_region_held3 (fun W => W.cell? ⟨w2.heap.size, 1, none⟩ = some (.slice Bw ws.length ew))
                ((show C1 w2.heap.size (.slice Bw ws.length ew) _; with_reducible (first | exact cd | exact c4)))
                (first
                  | (go_at_call 23; refine hK.mono ?_; rintro r w6 ⟨z, z0, z1, rfl, h6, g6⟩; obtain ⟨k, rfl⟩ : ∃ k : Nat, z = (k : Int) := ⟨z.toNat, by omega⟩; have hwk := IntWalk.i64_in (120 + (k : Int)) (by omega); have D6 := Dd.read h6 (Q := p + 402 + ws.length + 1) (by omega) g6; have c4 := (show C1 w2.heap.size (.slice Bw ws.length ew) w6 from D6.bx.cells.1.2.1)))
              by_cases hlt : ws.length < 120 + k
              · have hltI : (ws.length : Int) < 120 + (k : Int) := by omega
                obtain ⟨t6, ht6, q1, q2⟩ := D6.own.rows
                obtain ⟨rm, hrm, hrm2, hrm9⟩ : ∃ rm : Nat, (ws.length : Int).tmod 9 = (rm : Int) ∧ (ws.length : Int) % 9 = (rm : Int) ∧ rm < 9 := ⟨ws.length % 9, by rw [Int.tmod_eq_emod_of_nonneg (by omega)]; rfl, rfl, Nat.mod_lt _ (by decide)⟩
                have q2b := q2.alloc (.cells #[.int .i64 rm, .string ⟨#[122]⟩] 32)
                have HL := lies_two w6 rm ⟨#[122]⟩
                have bl6 := D6.bx.lt
                have bxa := D6.bx.alloc (.cells #[.int .i64 rm, .string ⟨#[122]⟩] 32)
                obtain ⟨⟨_, u1, _⟩, _⟩ := D6.bx.cells
                obtain ⟨⟨_, v1, _⟩, _⟩ := bxa.cells
                go_wp2_with (at_builtin; refine wpList_append_lies2 _ rfl _ _ 24 rfl w1.heap.size 32 j0 (.agg #[.int .i64 0, .string ⟨#[]⟩]) 2 24 Try.underlying24 hjj0 hy0 hy1 hy2 rfl (by decide) _ _ _ rfl q2b (some ⟨w6.heap.size, 0, none⟩) 1 1 [.int .i64 rm, .string ⟨#[122]⟩] rfl rfl HL (by simp [Value.oneCell']) (by show ws.length + 1 ≤ maxLen; unfold maxLen; omega) (by show (ws.length + 1) * 24 ≤ 140737488355328; omega) (by simp; omega) ?_; intro v7 w7 o7 g7; refine Hid.out ?_)
                refine Lib.hid ?_
                have o7' : w7.ownsRow w1.heap.size 32 2 v7 (ws.length + 1) (wtCells (ws ++ [⟨rm, ⟨#[122]⟩⟩])) := by rw [wt_snoc]; exact o7
                obtain ⟨B7, e7, rfl, _⟩ := own_lies o7'
                have bx7 := bxa.grown g7 (own_ne_box q2b bxa (by decide)).symm
                obtain ⟨⟨_, t1, _⟩, _⟩ := bx7.cells
                have D7 := D6.app (by omega) (by omega) (by omega) (by omega) ((World.grownBy_alloc _ _ _).trans g7) ⟨rm, ⟨#[122]⟩⟩ (show (1 : Nat) ≤ 1000 by decide) B7 e7 o7'
                have hl7 : (ws ++ [Wt.mk rm ⟨#[122]⟩]).length = ws.length + 1 := by rw [List.length_append]; rfl
                go_wp2_with fail
                go_roundw
                case rel => exact ⟨ws ++ [⟨rm, ⟨#[122]⟩⟩], B7, e7, by omega, D7.more (by omega)⟩
                case measure =>
                  have a := D7.bx.cells.1.2.1
                  have b := (show wr.cell? ⟨w2.heap.size, 1, none⟩ = some (.slice Bw ws.length ew) from x1)
                  clear hrm hrm2
                  have a2 : (w7.setCell ⟨w2.heap.size, 1, none⟩ (.slice B7 (ws.length + 1) e7)).cell? ⟨w2.heap.size, 1, none⟩ = some (.slice B7 (ws.length + 1) e7) := a.trans (congrArg (fun n => some (Value.slice B7 n e7)) hl7)
                  rw [b, a2]
                  show 200 - (ws.length + 1) < 200 - ws.length
                  omega
              · have hltI : ¬ (ws.length : Int) < 120 + (k : Int) := by omega
                have HF := D6.fin (p := p) hR hw0 (by omega) (by have := H64.out; show d'.cells.length ≤ 64; omega) (by show ws.length ≤ 200; omega)
                obtain ⟨⟨a0, a1, a2⟩, _⟩ := D6.bx.cells
                obtain ⟨⟨b0, b1, b2⟩, _⟩ := D6.br.cells
                go_wp2_with fail
                refine bodyPost_ret (v := .agg #[.slice (some ⟨g, 0, none⟩) d'.cells.length c', .slice Bw ws.length ew, .bool d'.gone]) (by simp [results, Try.f21, go_sem, b0, b1, b2]) rfl ?_
                exact HF _ _ _
          have HF := D5.fin (p := p) hR hw0 (by omega) (by have := H64.out; omega) (by omega)
          obtain ⟨⟨x0, x1, x2⟩, _⟩ := D5.bx.cells
          obtain ⟨⟨z0, z1, z2⟩, _⟩ := D5.br.cells
          have n0 : (y == 0) = false := by simpa using e0
          have n1 : (y == 1) = false := by simpa using e1
          have n2 : (y == 2) = false := by simpa using e2
          have n3 : (y == 3) = false := by simpa using e3
          have n4 : (y == 4) = false := by simpa using e4
          clear o1 o2
          go_wp2_with fail
          refine bodyPost_ret (v := .agg #[.slice (some ⟨g, 0, none⟩) d'.cells.length c', .slice Bv' d'.waits.length e', .bool d'.gone]) (by simp [results, Try.f21, go_sem, z0, z1, z2]) rfl ?_
          exact HF _ _ _
end Go.Proofs.Ytimpdjlgfjehcaa
