/-
  l91Text once more: it writes, of what was there, the reader's block alone.
-/
import Derived.Test.YtehmaacbmkfedaaDoorNrdD
import Derived.Lib.SlBytesConst
namespace Go.Proofs.YtehmaacbmkfedaaDoor
open Go.RowKit

theorem byte_of (x : Int) (h0 : 0 ≤ x) (h1 : x < 256) : ∃ c : UInt8, x = (c.toNat : Int) :=
  ⟨UInt8.ofNat x.toNat, by simp; omega⟩

theorem own_shape {w : World} {base n : Nat} {v : Value} {xs : List Value} (h : w.ownsRow base 5 1 v n xs) : ∃ a c, v = .slice a n c := by
  rcases h.2 with ⟨rfl, rfl⟩ | ⟨g, cap, cur, rfl, _⟩
  · exact ⟨_, _, rfl⟩
  · exact ⟨_, _, rfl⟩


theorem grown_more {w wr w' : World} {B n : Nat} {v : Value} {xs : List Value} (h : w.grownBy wr (some B)) (ho : wr.ownsRow w.heap.size 5 1 v n xs) (hg : wr.grownBy w' v.ownBlock) : w.grownBy w' (some B) :=
  ⟨hg.os.trans h.os, hg.tape.trans h.tape, hg.output.trans h.output, Nat.le_trans h.size hg.size, fun k hk hne =>
    (hg.block k (Nat.lt_of_lt_of_le hk h.size) (fun e => by have := (ho.lt k e.symm).1; omega)).trans (h.block k hk hne)⟩

def TextPost2 (w0 w : World) (B : Nat) (A : Option Addr) (m cap p n : Nat) (e : Ending) (w' : World) : Prop :=
  ∃ (s : ByteArray) (p' : Nat), e = .returned (.string s) ∧ s.size ≤ n ∧ IsRd w0 w' B A m cap p' ∧ p' ≤ p + 2 + 2 * n ∧ w.grownBy w' (some B)

set_option maxRecDepth 100000 in
set_option maxHeartbeats 2000000 in
theorem text_gr (w0 w : World) (B : Nat) (A : Option Addr) (m cap p n : Nat) (h : IsRd w0 w B A m cap p) (hp : p ≤ 500000) (hn : n ≤ 1000) :
    Calls Tryd.prog 35 #[.pointer (some ⟨B, 0, none⟩), .int .i64 n] w (TextPost2 w0 w B A m cap p n) := by
  obtain ⟨i0, hi, hz0, hz1, hz2⟩ := info_parts Tryd.info5
  have hsz0 := h.bel.size
  go_enter Tryd.func35, Tryd.ntmps35
  go_wp2_with (go_at_call 37; refine (pick_rd w0 _ B A m cap p ((n : Int) + 1) (h.alloc _) (by omega) (by omega) (by omega)).mono ?_; rintro e w1 ⟨x1, x10, x11, rfl, h1, g1⟩; refine Hid.out ?_)
  refine Lib.hid ?_
  have o1 := own_past (h.alloc _) (World.ownsRow_made (e := 5) (base := w.heap.size) w (size := 1) #[] 0 (Nat.le_refl _) (by decide) rfl) g1
  obtain ⟨many, rfl⟩ : ∃ many : Nat, x1 = (many : Int) := ⟨x1.toNat, by omega⟩
  have hmn : many ≤ n := by omega
  clear x10 x11
  go_wp2_with (go_at_call 37; refine (pick_rd w0 _ B A m cap (p + 1) 4 h1 (by omega) (by omega) (by omega)).mono ?_; rintro e w2 ⟨kd, k0, k4, rfl, h2, g2⟩; refine Hid.out ?_)
  refine Lib.hid ?_
  have o2 := own_past h1 o1 g2
  have s2 : w.heap.size ≤ w2.heap.size := by
    have a := g1.size
    have b := g2.size
    simp at a
    omega
  have G2 := Lib.hid (((World.grownBy_alloc w _ (some B)).trans g1).trans g2)
  clear o1 h1 g1 g2 h
  go_wp2_with fail
  go_loopg [5] many (fun g v wr => ∃ (o : List UInt8) (p' : Nat), g = many - o.length ∧ o.length ≤ many ∧ wr.ownsRow w.heap.size 5 1 v o.length (cellsOf o) ∧ IsRd w0 wr B A m cap p' ∧ p' ≤ p + 2 + 2 * o.length ∧ w.grownBy wr (some B))
  case atStart => exact ⟨[], p + 1 + 1, rfl, Nat.zero_le _, o2, h2, by simp, G2.out⟩
  case round =>
    obtain ⟨o, p', hg, hol, ho, hr, hpp, hG0⟩ := hrel
    have hsr := hG0.size
    have hG := Lib.hid hG0
    clear hG0
    obtain ⟨a, c0, rfl⟩ := own_shape ho
    clear o2 h2 s2 G2
    by_cases hlt : o.length < many
    · have hP := fun (N : Int) (h1 : 1 ≤ N) (h2 : N ≤ 1000000) => pick_rd w0 wr B A m cap p' N hr (by omega) h1 h2
      rcases (show kd = 0 ∨ kd = 1 ∨ kd = 2 ∨ kd = 3 by omega) with rfl | rfl | rfl | rfl
      · go_wp2_with (go_at_call 37; refine (hP 256 (by omega) (by omega)).mono ?_; rintro e w3 ⟨x, x0, x1, rfl, r3, g3⟩; refine Hid.out ?_)
        refine Lib.hid ?_
        have o3 := own_past hr ho g3
        have s3 := g3.size
        have G3 := Lib.hid (hG.out.trans g3)
        obtain ⟨c, rfl⟩ := byte_of x x0 x1
        clear ho hr g3 hP
        go_wp2_with (at_builtin; refine wpList_append_own_at _ rfl _ _ 42 rfl w.heap.size 5 i0 (.int .u8 0) 1 1 Tryd.underlying42 hi hz0 hz1 hz2 rfl (by decide) _ _ _ rfl (o3.alloc _) ⟨w3.heap.size, 0, none⟩ 1 1 [.int .u8 (c.toNat : Int)] rfl rfl (cell_one_new _ _ _) (by simp [Value.oneCell']) (by unfold maxLen; omega) (by omega) (by simp; omega) ?_)
        intro v' w4 hown' hgrow _ hat
        have R := own_next hown' (m := [c]) rfl rfl
        have D1 := IsRd.grown (r3.alloc _) (o3.alloc _) hsz0 hgrow
        have G4 := Lib.hid (grown_more (G3.out.trans (World.grownBy_alloc _ _ _)) (o3.alloc _) hgrow)
        have S1 := hgrow.size
        simp only [World.size_alloc] at S1
        clear hown' hgrow hat o3 r3
        go_wp2
        go_roundg (many - (o.length + 1))
        case measure => omega
        case rel => exact ⟨o ++ [c], p' + 1, by simp, by simp; omega, R, D1, by simp; omega, G4.out⟩
      · have hP1 := fun (o : Obj) => pick_rd w0 (wr.alloc o) B A m cap p' 7 (hr.alloc o) (by omega) (by omega) (by omega)
        clear hP
        have kc := fun (w : World) (C : Array Value) (n c : Nat) => Lib.run_convert_bytes_const (P := Tryd.prog) w 42 5 C n c Tryd.underlying42 Tryd.underlying5
        go_wp2_with (go_at_call 37; refine (hP1 _).mono ?_; rintro e w3 ⟨x, x0, x1, rfl, r3, g3⟩; refine Hid.out ?_)
        refine Lib.hid ?_
        have o3 := own_past (hr.alloc _) (ho.alloc _) g3
        have s3 := g3.size
        have G3 := Lib.hid ((hG.out.trans (World.grownBy_alloc _ _ _)).trans g3)
        simp only [World.size_alloc] at s3
        have hne : some wr.heap.size ≠ some B := by
          intro e
          have := hr.lt
          cases e
          omega
        have hcell : ∃ c : UInt8, w3.cell? ⟨wr.heap.size, x.toNat, none⟩ = some (.int .u8 (c.toNat : Int)) := by
          obtain ⟨k, rfl⟩ : ∃ k : Nat, x = (k : Int) := ⟨x.toNat, by omega⟩
          have hk : k < 7 := by omega
          rw [World.cell?_of_block (w := wr.alloc (.cells #[.int .u8 97, .int .u8 98, .int .u8 126, .int .u8 48, .int .u8 58, .int .u8 59, .int .u8 61] 5 (7, 8))) (g3.block wr.heap.size (by simp) hne)]
          rcases (show k = 0 ∨ k = 1 ∨ k = 2 ∨ k = 3 ∨ k = 4 ∨ k = 5 ∨ k = 6 by omega) with rfl | rfl | rfl | rfl | rfl | rfl | rfl
          · exact ⟨97, by rw [World.cell?_alloc_mark]; rfl⟩
          · exact ⟨98, by rw [World.cell?_alloc_mark]; rfl⟩
          · exact ⟨126, by rw [World.cell?_alloc_mark]; rfl⟩
          · exact ⟨48, by rw [World.cell?_alloc_mark]; rfl⟩
          · exact ⟨58, by rw [World.cell?_alloc_mark]; rfl⟩
          · exact ⟨59, by rw [World.cell?_alloc_mark]; rfl⟩
          · exact ⟨61, by rw [World.cell?_alloc_mark]; rfl⟩
        obtain ⟨c, hc⟩ := hcell
        obtain ⟨k, rfl⟩ : ∃ k : Nat, x = (k : Int) := ⟨x.toNat, by omega⟩
        rw [Int.toNat_natCast] at hc
        clear ho hr g3 hP1 hne kc
        go_wp2_with (at_builtin; refine wpList_append_own_at _ rfl _ _ 42 rfl w.heap.size 5 i0 (.int .u8 0) 1 1 Tryd.underlying42 hi hz0 hz1 hz2 rfl (by decide) _ _ _ rfl (o3.alloc _) ⟨w3.heap.size, 0, none⟩ 1 1 [.int .u8 (c.toNat : Int)] rfl rfl (cell_one_new _ _ _) (by simp [Value.oneCell']) (by unfold maxLen; omega) (by omega) (by simp; omega) ?_)
        intro v' w4 hown' hgrow _ hat
        have R := own_next hown' (m := [c]) rfl rfl
        have D1 := IsRd.grown (r3.alloc _) (o3.alloc _) hsz0 hgrow
        have G4 := Lib.hid (grown_more (G3.out.trans (World.grownBy_alloc _ _ _)) (o3.alloc _) hgrow)
        have S1 := hgrow.size
        simp only [World.size_alloc] at S1
        clear hown' hgrow hat o3 r3
        go_wp2
        go_roundg (many - (o.length + 1))
        case measure => omega
        case rel => exact ⟨o ++ [c], p' + 1, by simp, by simp; omega, R, D1, by simp; omega, G4.out⟩
      · go_wp2_with (go_at_call 37; refine (hP 3 (by omega) (by omega)).mono ?_; rintro e w3 ⟨x, x0, x1, rfl, r3, g3⟩; refine Hid.out ?_)
        refine Lib.hid ?_
        have o3 := own_past hr ho g3
        have s3 := g3.size
        have G3 := Lib.hid (hG.out.trans g3)
        obtain ⟨c, hc⟩ := byte_of (97 + x) (by omega) (by omega)
        clear ho hr g3 hP
        have hP2 := pick_rd w0 w3 B A m cap (p' + 1) 6 r3 (by omega) (by omega) (by omega)
        go_wp2_with (go_at_call 37; refine hP2.mono ?_; rintro e w4 ⟨y, y0, y1, rfl, r4, g4⟩; refine Hid.out ?_)
        refine Lib.hid ?_
        have o4 := own_past r3 o3 g4
        have s4 := g4.size
        have G4 := Lib.hid (G3.out.trans g4)
        have hcb := u8_rng c
        clear o3 r3 g4 hP2
        go_wp2_with fail
        go_loopg [5, 9] (y + 1).toNat (fun g v k wr => ∃ (o' : List UInt8) (kk : Int), g = (kk + 1).toNat ∧ -1 ≤ kk ∧ kk ≤ 5 ∧ k = .int .i64 kk ∧ (o'.length : Int) = (o.length : Int) + (y - kk) ∧ o'.length ≤ many ∧ wr.ownsRow w.heap.size 5 1 v o'.length (cellsOf o') ∧ IsRd w0 wr B A m cap (p' + 1 + 1) ∧ w.grownBy wr (some B))
        case atStart => exact ⟨o, y, rfl, by omega, by omega, rfl, by omega, hol, o4, r4, G4.out⟩
        case round =>
          obtain ⟨o', kk, hgk, hk1, hk5, rfl, hlen, hom, ho', hr', hg0⟩ := hrel
          have hs' := hg0.size
          have GG := Lib.hid hg0
          clear hg0
          obtain ⟨a2, c2, rfl⟩ := own_shape ho'
          have HGK := Lib.hid hgk
          have HG := Lib.hid hg
          clear o4 r4 hgk hg hc G3 G4 hG
          by_cases hk0 : 0 ≤ kk
          · by_cases hlt2 : o'.length < many
            · go_wp2_with (at_builtin; refine wpList_append_own_at _ rfl _ _ 42 rfl w.heap.size 5 i0 (.int .u8 0) 1 1 Tryd.underlying42 hi hz0 hz1 hz2 rfl (by decide) _ _ _ rfl (ho'.alloc _) ⟨wr.heap.size, 0, none⟩ 1 1 [.int .u8 (c.toNat : Int)] rfl rfl (cell_one_new _ _ _) (by simp [Value.oneCell']) (by unfold maxLen; omega) (by omega) (by simp; omega) ?_)
              intro v' w5 hown' hgrow _ hat
              have R := own_next hown' (m := [c]) rfl rfl
              have D1 := IsRd.grown (hr'.alloc _) (ho'.alloc _) hsz0 hgrow
              have G5 := Lib.hid (grown_more (GG.out.trans (World.grownBy_alloc _ _ _)) (ho'.alloc _) hgrow)
              have S1 := hgrow.size
              simp only [World.size_alloc] at S1
              clear hown' hgrow hat ho' hr'
              go_wp2
              go_roundg kk.toNat
              case measure => have := HGK.out; omega
              case rel => exact ⟨o' ++ [c], kk - 1, by omega, by omega, by omega, by go_num, by simp; omega, by simp; omega, R, D1, G5.out⟩
            · go_wp2_with fail
              go_roundg (many - o'.length)
              case measure => have := HG.out; omega
              case rel => exact ⟨o', p' + 1 + 1, rfl, hom, ho', hr', by omega, GG.out⟩
          · go_wp2_with fail
            go_roundg (many - o'.length)
            case measure => have := HG.out; omega
            case rel => exact ⟨o', p' + 1 + 1, rfl, hom, ho', hr', by omega, GG.out⟩
      · go_wp2_with (go_at_call 37; refine (hP 2 (by omega) (by omega)).mono ?_; rintro e w3 ⟨x, x0, x1, rfl, r3, g3⟩; refine Hid.out ?_)
        refine Lib.hid ?_
        have o3 := own_past hr ho g3
        have s3 := g3.size
        have G3 := Lib.hid (hG.out.trans g3)
        obtain ⟨c, hc⟩ := byte_of (x * 97) (by omega) (by omega)
        have hcb := u8_rng c
        clear ho hr g3 hP
        go_wp2_with (at_builtin; refine wpList_append_own_at _ rfl _ _ 42 rfl w.heap.size 5 i0 (.int .u8 0) 1 1 Tryd.underlying42 hi hz0 hz1 hz2 rfl (by decide) _ _ _ rfl (o3.alloc _) ⟨w3.heap.size, 0, none⟩ 1 1 [.int .u8 (c.toNat : Int)] rfl rfl (cell_one_new _ _ _) (by simp [Value.oneCell']) (by unfold maxLen; omega) (by omega) (by simp; omega) ?_)
        intro v' w4 hown' hgrow _ hat
        have R := own_next hown' (m := [c]) rfl rfl
        have D1 := IsRd.grown (r3.alloc _) (o3.alloc _) hsz0 hgrow
        have G4 := Lib.hid (grown_more (G3.out.trans (World.grownBy_alloc _ _ _)) (o3.alloc _) hgrow)
        have S1 := hgrow.size
        simp only [World.size_alloc] at S1
        clear hown' hgrow hat o3 r3
        go_wp2
        go_roundg (many - (o.length + 1))
        case measure => omega
        case rel => exact ⟨o ++ [c], p' + 1, by simp, by simp; omega, R, D1, by simp; omega, G4.out⟩
    · have hcv := conv_own ho
      have hsz := strOf_size o
      go_wp2_with fail
      go_ret
      exact ⟨strOf o, p', rfl, by omega, hr, by omega, hG.out⟩

end Go.Proofs.YtehmaacbmkfedaaDoor
