/-
  Some pointer is drawn, and some list of pointers.
-/
import Derived.Test.YtlmemjfinpccoaaDraw
import Derived.Test.YtlmemjfinpccoaaPtR
import Derived.Lib.SlBytesConst
import Derived.BigQuiet
import Derived.Deep.QuietTactic
import Derived.Laws.OwnMore
import Derived.OwnWalk
import Derived.Maps.AppendAt
import Derived.Laws.BytesArg
import Derived.WalkKit
import Derived.WalkSpells
import Derived.Lib.Hide
import Derived.ProofKit
import Derived.OpenShut
import Derived.ShutString
import Derived.Laws.ResultCell
namespace Go.Proofs.Ytlmemjfinpccoaa
open Go.RowKit

def strOf (l : List UInt8) : ByteArray := ⟨l.toArray⟩
theorem strOf_toList (l : List UInt8) : (strOf l).data.toList = l := by simp [strOf]
theorem strOf_size (l : List UInt8) : (strOf l).size = l.length := by simp [strOf, ByteArray.size]
theorem bytes_inj {a b : ByteArray} (h : a.data.toList = b.data.toList) : a = b := by
  cases a; cases b
  simp at h
  rw [h]
theorem strOf_app (l m : List UInt8) : strOf l ++ strOf m = strOf (l ++ m) := by
  apply bytes_inj
  rw [strOf_toList]
  simp [strOf]
theorem add_strs (P : Program) (l m : List UInt8) (h : l.length + m.length ≤ 9223372036854775807) (w : World) : (Op.stringOp .add (strOf l) (strOf m)).run P w = .ok (.string (strOf (l ++ m))) w := by
  rw [run_string_add_sum w _ _ (by rw [strOf_size, strOf_size]; exact h), strOf_app]
theorem in_yes (n lo hi : Int) (w : World) (h : lo ≤ n ∧ n ≤ hi) : Calls Try.prog 58 #[.int .i64 n, .int .i64 lo, .int .i64 hi] w fun e w' => e = .returned (.bool true) ∧ w = w' := by
  have := s_in n lo hi w
  rwa [inB_yes h] at this
theorem in_no (n lo hi : Int) (w : World) (h : ¬ (lo ≤ n ∧ n ≤ hi)) : Calls Try.prog 58 #[.int .i64 n, .int .i64 lo, .int .i64 hi] w fun e w' => e = .returned (.bool false) ∧ w = w' := by
  have := s_in n lo hi w
  rwa [inB_no h] at this

set_option maxRecDepth 100000
def cellsOf (l : List UInt8) : List Value := l.map fun c => Value.int .u8 (c.toNat : Int)
theorem cellsOf_len (l : List UInt8) : (cellsOf l).length = l.length := by simp [cellsOf]
theorem cellsOf_app (l m : List UInt8) : cellsOf (l ++ m) = cellsOf l ++ cellsOf m := by simp [cellsOf]
theorem Try.info5 : (Try.prog.info? 5).map (fun i => (i.zero, i.size, i.bytes)) = some (some (.int .u8 0), 1, 1) := by kernel_rfl
theorem strOf_nums (l : List UInt8) : strOfNums (l.map fun c => (c.toNat : Int)) = strOf l := by
  unfold strOfNums strOf
  congr 2
  rw [List.map_map]
  conv => rhs; rw [← List.map_id l]
  apply List.map_congr_left
  intro c _
  simp
theorem conv_own {w : World} {base n : Nat} {v : Value} {l : List UInt8} (h : w.ownsRow base 5 1 v n (cellsOf l)) :
    (convert 52 9 v).run Try.prog w = .ok (.string (strOf l)) w := by
  have hl := h.1
  rw [cellsOf_len] at hl
  have hc := fun g hg => h.cells (g := g) hg
  rcases h.2 with ⟨rfl, rfl⟩ | ⟨g, cap, cur, rfl, _⟩
  · have : l = [] := List.eq_nil_of_length_eq_zero (by omega)
    subst this
    exact run_convert_bytes_nil w 52 5 Try.underlying52 Try.underlying5 0 0 9 Try.underlying9
  · have hr := run_convert_bytes_arg (P := Try.prog) w 52 5 Try.underlying52 Try.underlying5 g 0 n cap (l.map fun c => (c.toNat : Int)) (by simp; omega) (fun i hi => by
      have hh := hc g rfl i (.int .u8 ((l[i]'(by omega)).toNat : Int)) (by simp [cellsOf, List.getElem?_map, List.getElem?_eq_getElem (show i < l.length by omega)])
      have hplain : (⟨g, 0, none⟩ : Addr).add i = ⟨g, 0 + i, none⟩ := by unfold Addr.add; split <;> simp_all
      rw [hplain] at hh
      rw [hh]
      simp [List.getD, List.getElem?_map, List.getElem?_eq_getElem (show i < l.length by omega)]) 9 Try.underlying9
    rw [hr, strOf_nums]
theorem own_next {w : World} {base n : Nat} {v : Value} {l m : List UInt8} {news : List Value} (h : w.ownsRow base 5 1 v n (cellsOf l ++ news)) (hn : news = cellsOf m) (hk : n = l.length + m.length) :
    w.ownsRow base 5 1 v (l ++ m).length (cellsOf (l ++ m)) := by
  rw [cellsOf_app, List.length_append, ← hk, ← hn]
  exact h
theorem own_form {W : World} {base n : Nat} {v : Value} {xs : List Value} (h : W.ownsRow base 5 1 v n xs) (hn : 0 < n) : ∃ g cap, v = .slice (some ⟨g, 0, none⟩) n cap := by
  rcases h.2 with ⟨_, h0⟩ | ⟨g, cap, _, rfl, _⟩
  · omega
  · exact ⟨g, cap, rfl⟩
theorem u8_bd (c : UInt8) : 0 ≤ (c.toNat : Int) ∧ (c.toNat : Int) ≤ 255 := by
  have := c.toNat_lt
  omega
theorem byte_of (x : Int) (h0 : 0 ≤ x) (h1 : x < 256) : ∃ c : UInt8, x = (c.toNat : Int) :=
  ⟨UInt8.ofNat x.toNat, by simp; omega⟩

theorem own_shape {w : World} {base n : Nat} {v : Value} {xs : List Value} (h : w.ownsRow base 5 1 v n xs) : ∃ a c, v = .slice a n c := by
  rcases h.2 with ⟨rfl, rfl⟩ | ⟨g, cap, cur, rfl, _⟩
  · exact ⟨_, _, rfl⟩
  · exact ⟨_, _, rfl⟩



theorem rd_not_row5 {w0 w : World} {B : Nat} {A : Option Addr} {m cap p base n : Nat} {v : Value} {xs : List Value} (h : IsRd w0 w B A m cap p) (ho : w.ownsRow base 5 1 v n xs) : v.ownBlock ≠ some B := by
  rcases ho.2 with ⟨rfl, _⟩ | ⟨g, c, cur, rfl, _, hg, _⟩
  · simp [Value.ownBlock]
  · intro e
    simp only [Value.ownBlock, Option.some.injEq] at e
    subst e
    have := hg.symm.trans h.blk
    simp at this
theorem own_past5 {w0 w w' : World} {B : Nat} {A : Option Addr} {m cap p base n : Nat} {v : Value} {xs : List Value} (h : IsRd w0 w B A m cap p) (ho : w.ownsRow base 5 1 v n xs) (hg : w.grownBy w' (some B)) : w'.ownsRow base 5 1 v n xs :=
  ho.kept hg (.inr (rd_not_row5 h ho))
theorem IsRd.grown5 {w0 w w' : World} {B : Nat} {A : Option Addr} {m cap p base n : Nat} {v : Value} {xs : List Value} (h : IsRd w0 w B A m cap p) (ho : w.ownsRow base 5 1 v n xs) (hb : w0.heap.size ≤ base) (hg : w.grownBy w' v.ownBlock) : IsRd w0 w' B A m cap p :=
  ⟨(hg.block B h.lt (rd_not_row5 h ho).symm).trans h.blk, h.bts, h.old, h.bel.grown hg h.bel.size (fun k e => Nat.le_trans hb (ho.lt k e).1), h.few⟩
theorem grown_more {w wr w' : World} {B n : Nat} {v : Value} {xs : List Value} (h : w.grownBy wr (some B)) (ho : wr.ownsRow w.heap.size 5 1 v n xs) (hg : wr.grownBy w' v.ownBlock) : w.grownBy w' (some B) :=
  ⟨hg.os.trans h.os, hg.tape.trans h.tape, hg.output.trans h.output, Nat.le_trans h.size hg.size, fun k hk hne =>
    (hg.block k (Nat.lt_of_lt_of_le hk h.size) (fun e => by have := (ho.lt k e.symm).1; omega)).trans (h.block k hk hne)⟩

def TextPost2 (w0 w : World) (B : Nat) (A : Option Addr) (m cap p n : Nat) (e : Ending) (w' : World) : Prop :=
  ∃ (s : ByteArray) (p' : Nat), e = .returned (.string s) ∧ s.size ≤ n ∧ IsRd w0 w' B A m cap p' ∧ p' ≤ p + 2 + 2 * n ∧ w.grownBy w' (some B)

set_option maxRecDepth 100000 in
set_option maxHeartbeats 2000000 in
theorem text_gr (w0 w : World) (B : Nat) (A : Option Addr) (m cap p n : Nat) (h : IsRd w0 w B A m cap p) (hp : p ≤ 500000) (hn : n ≤ 1000) :
    Calls Try.prog 85 #[.pointer (some ⟨B, 0, none⟩), .int .i64 n] w (TextPost2 w0 w B A m cap p n) := by
  obtain ⟨i0, hi, hz0, hz1, hz2⟩ := info_parts Try.info5
  have hsz0 := h.bel.size
  go_enter Try.func85, Try.ntmps85
  go_wp2_with (go_at_call 78; refine (pick_rd w0 _ B A m cap p ((n : Int) + 1) (h.alloc _) (by omega) (by omega) (by omega)).mono ?_; rintro e w1 ⟨x1, x10, x11, rfl, h1, g1⟩; refine Hid.out ?_)
  refine Lib.hid ?_
  have o1 := own_past5 (h.alloc _) (World.ownsRow_made (e := 5) (base := w.heap.size) w (size := 1) #[] 0 (Nat.le_refl _) (by decide) rfl) g1
  obtain ⟨many, rfl⟩ : ∃ many : Nat, x1 = (many : Int) := ⟨x1.toNat, by omega⟩
  have hmn : many ≤ n := by omega
  clear x10 x11
  go_wp2_with (go_at_call 78; refine (pick_rd w0 _ B A m cap (p + 1) 4 h1 (by omega) (by omega) (by omega)).mono ?_; rintro e w2 ⟨kd, k0, k4, rfl, h2, g2⟩; refine Hid.out ?_)
  refine Lib.hid ?_
  have o2 := own_past5 h1 o1 g2
  have s2 : w.heap.size ≤ w2.heap.size := by
    have a := g1.size
    have b := g2.size
    simp at a
    omega
  have G2 := Lib.hid (((World.grownBy_alloc w _ (some B)).trans g1).trans g2)
  clear o1 h1 g1 g2 h
  go_wp2_with fail
  go_loopg [5] many (fun g v wr => ∃ (o : List UInt8) (p' : Nat), g = many - o.length ∧ o.length ≤ many ∧ wr.ownsRow w.heap.size 5 1 v o.length (cellsOf o) ∧ IsRd w0 wr B A m cap p' ∧ p' ≤ p + 2 + 2 * o.length ∧ w.grownBy wr (some B))
  case atStart => exact ⟨[], p + 1 + 1, rfl, Nat.zero_le _, o2, h2, by simp, G2.out⟩
  case round =>
    obtain ⟨o, p', hg, hol, ho, hr, hpp, hG0⟩ := hrel
    have hsr := hG0.size
    have hG := Lib.hid hG0
    clear hG0
    obtain ⟨a, c0, rfl⟩ := own_shape ho
    clear o2 h2 s2 G2
    by_cases hlt : o.length < many
    · have hP := fun (N : Int) (h1 : 1 ≤ N) (h2 : N ≤ 1000000) => pick_rd w0 wr B A m cap p' N hr (by omega) h1 h2
      rcases (show kd = 0 ∨ kd = 1 ∨ kd = 2 ∨ kd = 3 by omega) with rfl | rfl | rfl | rfl
      · go_wp2_with (go_at_call 78; refine (hP 256 (by omega) (by omega)).mono ?_; rintro e w3 ⟨x, x0, x1, rfl, r3, g3⟩; refine Hid.out ?_)
        refine Lib.hid ?_
        have o3 := own_past5 hr ho g3
        have s3 := g3.size
        have G3 := Lib.hid (hG.out.trans g3)
        obtain ⟨c, rfl⟩ := byte_of x x0 x1
        clear ho hr g3 hP
        go_wp2_with (at_builtin; refine wpList_append_own_at _ rfl _ _ 52 rfl w.heap.size 5 i0 (.int .u8 0) 1 1 Try.underlying52 hi hz0 hz1 hz2 rfl (by decide) _ _ _ rfl (o3.alloc _) ⟨w3.heap.size, 0, none⟩ 1 1 [.int .u8 (c.toNat : Int)] rfl rfl (cell_one_new _ _ _) (by simp [Value.oneCell']) (by unfold maxLen; omega) (by omega) (by simp; omega) ?_)
        intro v' w4 hown' hgrow _ hat
        have R := own_next hown' (m := [c]) rfl rfl
        have D1 := IsRd.grown5 (r3.alloc _) (o3.alloc _) hsz0 hgrow
        have G4 := Lib.hid (grown_more (G3.out.trans (World.grownBy_alloc _ _ _)) (o3.alloc _) hgrow)
        have S1 := hgrow.size
        simp only [World.size_alloc] at S1
        clear hown' hgrow hat o3 r3
        go_wp2
        go_roundg (many - (o.length + 1))
        case measure => omega
        case rel => exact ⟨o ++ [c], p' + 1, by simp, by simp; omega, R, D1, by simp; omega, G4.out⟩
      · have hP1 := fun (o : Obj) => pick_rd w0 (wr.alloc o) B A m cap p' 7 (hr.alloc o) (by omega) (by omega) (by omega)
        clear hP
        have kc := fun (w : World) (C : Array Value) (n c : Nat) => Lib.run_convert_bytes_const (P := Try.prog) w 52 5 C n c Try.underlying52 Try.underlying5
        go_wp2_with (go_at_call 78; refine (hP1 _).mono ?_; rintro e w3 ⟨x, x0, x1, rfl, r3, g3⟩; refine Hid.out ?_)
        refine Lib.hid ?_
        have o3 := own_past5 (hr.alloc _) (ho.alloc _) g3
        have s3 := g3.size
        have G3 := Lib.hid ((hG.out.trans (World.grownBy_alloc _ _ _)).trans g3)
        simp only [World.size_alloc] at s3
        have hne : some wr.heap.size ≠ some B := by
          intro e
          have := hr.lt
          cases e
          omega
        have hcell : ∃ c : UInt8, w3.cell? ⟨wr.heap.size, x.toNat, none⟩ = some (.int .u8 (c.toNat : Int)) := by
          obtain ⟨k, rfl⟩ : ∃ k : Nat, x = (k : Int) := ⟨x.toNat, by omega⟩
          have hk : k < 7 := by omega
          rw [World.cell?_of_block (w := wr.alloc (.cells #[.int .u8 97, .int .u8 98, .int .u8 126, .int .u8 48, .int .u8 58, .int .u8 59, .int .u8 61] 5 (7, 8))) (g3.block wr.heap.size (by simp) hne)]
          rcases (show k = 0 ∨ k = 1 ∨ k = 2 ∨ k = 3 ∨ k = 4 ∨ k = 5 ∨ k = 6 by omega) with rfl | rfl | rfl | rfl | rfl | rfl | rfl
          · exact ⟨97, by rw [World.cell?_alloc_mark]; rfl⟩
          · exact ⟨98, by rw [World.cell?_alloc_mark]; rfl⟩
          · exact ⟨126, by rw [World.cell?_alloc_mark]; rfl⟩
          · exact ⟨48, by rw [World.cell?_alloc_mark]; rfl⟩
          · exact ⟨58, by rw [World.cell?_alloc_mark]; rfl⟩
          · exact ⟨59, by rw [World.cell?_alloc_mark]; rfl⟩
          · exact ⟨61, by rw [World.cell?_alloc_mark]; rfl⟩
        obtain ⟨c, hc⟩ := hcell
        obtain ⟨k, rfl⟩ : ∃ k : Nat, x = (k : Int) := ⟨x.toNat, by omega⟩
        rw [Int.toNat_natCast] at hc
        clear ho hr g3 hP1 hne kc
        go_wp2_with (at_builtin; refine wpList_append_own_at _ rfl _ _ 52 rfl w.heap.size 5 i0 (.int .u8 0) 1 1 Try.underlying52 hi hz0 hz1 hz2 rfl (by decide) _ _ _ rfl (o3.alloc _) ⟨w3.heap.size, 0, none⟩ 1 1 [.int .u8 (c.toNat : Int)] rfl rfl (cell_one_new _ _ _) (by simp [Value.oneCell']) (by unfold maxLen; omega) (by omega) (by simp; omega) ?_)
        intro v' w4 hown' hgrow _ hat
        have R := own_next hown' (m := [c]) rfl rfl
        have D1 := IsRd.grown5 (r3.alloc _) (o3.alloc _) hsz0 hgrow
        have G4 := Lib.hid (grown_more (G3.out.trans (World.grownBy_alloc _ _ _)) (o3.alloc _) hgrow)
        have S1 := hgrow.size
        simp only [World.size_alloc] at S1
        clear hown' hgrow hat o3 r3
        go_wp2
        go_roundg (many - (o.length + 1))
        case measure => omega
        case rel => exact ⟨o ++ [c], p' + 1, by simp, by simp; omega, R, D1, by simp; omega, G4.out⟩
      · go_wp2_with (go_at_call 78; refine (hP 3 (by omega) (by omega)).mono ?_; rintro e w3 ⟨x, x0, x1, rfl, r3, g3⟩; refine Hid.out ?_)
        refine Lib.hid ?_
        have o3 := own_past5 hr ho g3
        have s3 := g3.size
        have G3 := Lib.hid (hG.out.trans g3)
        obtain ⟨c, hc⟩ := byte_of (97 + x) (by omega) (by omega)
        clear ho hr g3 hP
        have hP2 := pick_rd w0 w3 B A m cap (p' + 1) 6 r3 (by omega) (by omega) (by omega)
        go_wp2_with (go_at_call 78; refine hP2.mono ?_; rintro e w4 ⟨y, y0, y1, rfl, r4, g4⟩; refine Hid.out ?_)
        refine Lib.hid ?_
        have o4 := own_past5 r3 o3 g4
        have s4 := g4.size
        have G4 := Lib.hid (G3.out.trans g4)
        have hcb := u8_bd c
        clear o3 r3 g4 hP2
        go_wp2_with fail
        go_loopg [5, 9] (y + 1).toNat (fun g v k wr => ∃ (o' : List UInt8) (kk : Int), g = (kk + 1).toNat ∧ -1 ≤ kk ∧ kk ≤ 5 ∧ k = .int .i64 kk ∧ (o'.length : Int) = (o.length : Int) + (y - kk) ∧ o'.length ≤ many ∧ wr.ownsRow w.heap.size 5 1 v o'.length (cellsOf o') ∧ IsRd w0 wr B A m cap (p' + 1 + 1) ∧ w.grownBy wr (some B))
        case atStart => exact ⟨o, y, rfl, by omega, by omega, rfl, by omega, hol, o4, r4, G4.out⟩
        case round =>
          obtain ⟨o', kk, hgk, hk1, hk5, rfl, hlen, hom, ho', hr', hg0⟩ := hrel
          have hs' := hg0.size
          have GG := Lib.hid hg0
          clear hg0
          obtain ⟨a2, c2, rfl⟩ := own_shape ho'
          have HGK := Lib.hid hgk
          have HG := Lib.hid hg
          clear o4 r4 hgk hg hc G3 G4 hG
          by_cases hk0 : 0 ≤ kk
          · by_cases hlt2 : o'.length < many
            · go_wp2_with (at_builtin; refine wpList_append_own_at _ rfl _ _ 52 rfl w.heap.size 5 i0 (.int .u8 0) 1 1 Try.underlying52 hi hz0 hz1 hz2 rfl (by decide) _ _ _ rfl (ho'.alloc _) ⟨wr.heap.size, 0, none⟩ 1 1 [.int .u8 (c.toNat : Int)] rfl rfl (cell_one_new _ _ _) (by simp [Value.oneCell']) (by unfold maxLen; omega) (by omega) (by simp; omega) ?_)
              intro v' w5 hown' hgrow _ hat
              have R := own_next hown' (m := [c]) rfl rfl
              have D1 := IsRd.grown5 (hr'.alloc _) (ho'.alloc _) hsz0 hgrow
              have G5 := Lib.hid (grown_more (GG.out.trans (World.grownBy_alloc _ _ _)) (ho'.alloc _) hgrow)
              have S1 := hgrow.size
              simp only [World.size_alloc] at S1
              clear hown' hgrow hat ho' hr'
              go_wp2
              go_roundg kk.toNat
              case measure => have := HGK.out; omega
              case rel => exact ⟨o' ++ [c], kk - 1, by omega, by omega, by omega, by go_num, by simp; omega, by simp; omega, R, D1, G5.out⟩
            · go_wp2_with fail
              go_roundg (many - o'.length)
              case measure => have := HG.out; omega
              case rel => exact ⟨o', p' + 1 + 1, rfl, hom, ho', hr', by omega, GG.out⟩
          · go_wp2_with fail
            go_roundg (many - o'.length)
            case measure => have := HG.out; omega
            case rel => exact ⟨o', p' + 1 + 1, rfl, hom, ho', hr', by omega, GG.out⟩
      · go_wp2_with (go_at_call 78; refine (hP 2 (by omega) (by omega)).mono ?_; rintro e w3 ⟨x, x0, x1, rfl, r3, g3⟩; refine Hid.out ?_)
        refine Lib.hid ?_
        have o3 := own_past5 hr ho g3
        have s3 := g3.size
        have G3 := Lib.hid (hG.out.trans g3)
        obtain ⟨c, hc⟩ := byte_of (x * 97) (by omega) (by omega)
        have hcb := u8_bd c
        clear ho hr g3 hP
        go_wp2_with (at_builtin; refine wpList_append_own_at _ rfl _ _ 52 rfl w.heap.size 5 i0 (.int .u8 0) 1 1 Try.underlying52 hi hz0 hz1 hz2 rfl (by decide) _ _ _ rfl (o3.alloc _) ⟨w3.heap.size, 0, none⟩ 1 1 [.int .u8 (c.toNat : Int)] rfl rfl (cell_one_new _ _ _) (by simp [Value.oneCell']) (by unfold maxLen; omega) (by omega) (by simp; omega) ?_)
        intro v' w4 hown' hgrow _ hat
        have R := own_next hown' (m := [c]) rfl rfl
        have D1 := IsRd.grown5 (r3.alloc _) (o3.alloc _) hsz0 hgrow
        have G4 := Lib.hid (grown_more (G3.out.trans (World.grownBy_alloc _ _ _)) (o3.alloc _) hgrow)
        have S1 := hgrow.size
        simp only [World.size_alloc] at S1
        clear hown' hgrow hat o3 r3
        go_wp2
        go_roundg (many - (o.length + 1))
        case measure => omega
        case rel => exact ⟨o ++ [c], p' + 1, by simp, by simp; omega, R, D1, by simp; omega, G4.out⟩
    · have hcv := conv_own ho
      have hsz := strOf_size o
      go_wp2_with fail
      go_ret
      exact ⟨strOf o, p', rfl, by omega, hr, by omega, hG.out⟩


def sstep (p : Int × Int) (c : UInt8) : Int × Int := ((p.1 + (c.toNat : Int) + 1) % 9973, (p.2 + (p.1 + (c.toNat : Int) + 1) % 9973) % 9973)
def sums (l : List UInt8) : Int × Int := l.foldl sstep (1, 0)
def sumA (l : List UInt8) : Int := (sums l).1
def sumB (l : List UInt8) : Int := (sums l).2
def sumT (l : List UInt8) : Int := sumA l * 9973 + sumB l

theorem sums_snoc (l : List UInt8) (c : UInt8) : sums (l ++ [c]) = sstep (sums l) c := by
  unfold sums; rw [List.foldl_append]; rfl
theorem sumA_snoc (l : List UInt8) (c : UInt8) : sumA (l ++ [c]) = (sumA l + (c.toNat : Int) + 1) % 9973 := by
  unfold sumA; rw [sums_snoc]; rfl
theorem sumB_snoc (l : List UInt8) (c : UInt8) : sumB (l ++ [c]) = (sumB l + (sumA l + (c.toNat : Int) + 1) % 9973) % 9973 := by
  unfold sumB; rw [sums_snoc]; rfl
theorem sstep_bd (l : List UInt8) (p : Int × Int) (h : 0 ≤ p.1 ∧ p.1 < 9973 ∧ 0 ≤ p.2 ∧ p.2 < 9973) :
    0 ≤ (l.foldl sstep p).1 ∧ (l.foldl sstep p).1 < 9973 ∧ 0 ≤ (l.foldl sstep p).2 ∧ (l.foldl sstep p).2 < 9973 := by
  induction l generalizing p with
  | nil => exact h
  | cons c l ih =>
    rw [List.foldl_cons]
    apply ih
    unfold sstep
    dsimp only
    omega
theorem sums_bd (l : List UInt8) : 0 ≤ sumA l ∧ sumA l < 9973 ∧ 0 ≤ sumB l ∧ sumB l < 9973 :=
  sstep_bd l (1, 0) (by decide)
theorem sumT_bd (l : List UInt8) : 0 ≤ sumT l ∧ sumT l ≤ 99460728 := by
  have := sums_bd l
  unfold sumT
  omega

theorem ret_int {k : IntKind} {a b : Int} (h : a = b) : Ending.returned (.int k a) = .returned (.int k b) := by rw [h]
theorem take_snoc (s : ByteArray) (k : Nat) (h : k < s.size) : s.data.toList.take (k + 1) = s.data.toList.take k ++ [s[k]] := by
  rw [List.take_succ_eq_append_getElem (by simpa using h)]; rfl
set_option maxHeartbeats 400000 in
theorem spec_sum (s : ByteArray) (w : World) (hs : s.size ≤ maxLen) :
    Calls Try.prog 87 #[.string s] w fun e w' => e = .returned (.int .i64 (sumT s.data.toList)) ∧ w = w' := by
  unfold maxLen at hs
  go_enter Try.func87, Try.ntmps87
  go_wp2
  go_loop [3, 4, 5] (fun a b i => ∃ k : Nat, k ≤ s.size ∧ i = .int .i64 k ∧ a = .int .i64 (sumA (s.data.toList.take k)) ∧ b = .int .i64 (sumB (s.data.toList.take k))) (fun _ _ i => s.size - (intOf i).toNat)
  case atStart => exact ⟨0, Nat.zero_le _, rfl, rfl, rfl⟩
  case round =>
    obtain ⟨k, hk, rfl, rfl, rfl⟩ := hrel
    obtain ⟨ha0, ha1, hb0, hb1⟩ := sums_bd (s.data.toList.take k)
    by_cases hlt : k < s.size
    · obtain ⟨hc0, hc1⟩ := u8_bd s[k]
      have hA := sumA_snoc (s.data.toList.take k) s[k]
      have hB := sumB_snoc (s.data.toList.take k) s[k]
      rw [← take_snoc s k hlt] at hA hB
      have HA := Lib.hid hA
      have HB := Lib.hid hB
      clear hA hB
      go_wp2
      all_goals
        go_round
        case rel => exact ⟨k + 1, by omega, by go_num, by rw [HA.out], by rw [HB.out]⟩
        case measure => simp [intOf]; omega
    · go_wp2
      go_ret
      exact ⟨ret_int (by rw [List.take_of_length_le (by simp; omega)]; rfl), rfl⟩


theorem sblock_yes (s : ByteArray) (w : World) (h : 1 ≤ (s.size : Int) ∧ (s.size : Int) ≤ 128) : Calls Try.prog 86 #[.string s] w fun e w' => e = .returned (.bool true) ∧ w = w' := by
  go_enter Try.func86, Try.ntmps86
  go_wp2_with (go_at_call 58; refine (in_yes _ _ _ _ h).mono ?_; rintro e w' ⟨rfl, rfl⟩)
  go_ret
  exact ⟨rfl, rfl⟩
theorem sblock_no (s : ByteArray) (w : World) (h : ¬ (1 ≤ (s.size : Int) ∧ (s.size : Int) ≤ 128)) : Calls Try.prog 86 #[.string s] w fun e w' => e = .returned (.bool false) ∧ w = w' := by
  go_enter Try.func86, Try.ntmps86
  go_wp2_with (go_at_call 58; refine (in_no _ _ _ _ h).mono ?_; rintro e w' ⟨rfl, rfl⟩)
  go_ret
  exact ⟨rfl, rfl⟩

/-- What making a pointer to a block answers. -/
def ptrofPost (a b l : Int) (s : ByteArray) (w : World) (r : Ending) (w' : World) : Prop :=
  Below w.heap.size w w' ∧
  ((((1 ≤ (s.size : Int) ∧ (s.size : Int) ≤ 128) ∧ isOk a b s.size (sumT s.data.toList) l = true) ∧ r = .returned (.tuple #[.agg #[.int .i64 a, .int .i64 b, .int .i64 s.size, .int .i64 (sumT s.data.toList), .int .i64 l], .bool true])) ∨
   (¬ ((1 ≤ (s.size : Int) ∧ (s.size : Int) ≤ 128) ∧ isOk a b s.size (sumT s.data.toList) l = true) ∧ r = .returned (.tuple #[.agg #[.int .i64 0, .int .i64 0, .int .i64 0, .int .i64 0, .int .i64 0], .bool false])))

set_option maxHeartbeats 1000000 in
theorem spec_ptrof (a b l : Int) (s : ByteArray) (w : World) : Calls Try.prog 84 #[.int .i64 a, .int .i64 b, .int .i64 l, .string s] w (ptrofPost a b l s w) := by
  by_cases hs : 1 ≤ (s.size : Int) ∧ (s.size : Int) ≤ 128
  · have hO := fun w => spec_pok a b s.size (sumT s.data.toList) l w
    have hS := fun w => spec_sum s w (by unfold maxLen; omega)
    unfold ptrofPost
    obtain ⟨z, hz⟩ : ∃ z, z = sumT s.data.toList := ⟨_, rfl⟩
    rw [← hz] at hO hS ⊢
    clear hz
    by_cases hk : isOk a b s.size z l = true
    · rw [hk] at hO
      have HK := Lib.hid hk
      clear hk
      go_enter Try.func84, Try.ntmps84
      go_wp2_with (first | (go_at_call 86; refine (sblock_yes _ _ hs).mono ?_; rintro e w' ⟨rfl, rfl⟩) | (go_at_call 87; refine (hS _).mono ?_; rintro e w' ⟨rfl, rfl⟩) | (go_at_call 70; refine (hO _).mono ?_; rintro e w' ⟨rfl, rfl⟩))
      refine bodyPost_ret (v := .tuple #[.agg #[.int .i64 a, .int .i64 b, .int .i64 s.size, .int .i64 z, .int .i64 l], .bool true]) ?_ rfl ⟨(by repeat' (first | exact Below.refl _ _ | refine bel_new ?_ _ | refine Below.drew ?_)), .inl ⟨⟨hs, HK.out⟩, rfl⟩⟩
      rw [results_cell_tmp rfl]
      go_simp
    · have hk' : isOk a b s.size z l = false := by simpa using hk
      rw [hk'] at hO
      have HK := Lib.hid hk
      clear hk hk'
      go_enter Try.func84, Try.ntmps84
      go_wp2_with (first | (go_at_call 86; refine (sblock_yes _ _ hs).mono ?_; rintro e w' ⟨rfl, rfl⟩) | (go_at_call 87; refine (hS _).mono ?_; rintro e w' ⟨rfl, rfl⟩) | (go_at_call 70; refine (hO _).mono ?_; rintro e w' ⟨rfl, rfl⟩))
      refine bodyPost_ret (v := .tuple #[.agg #[.int .i64 0, .int .i64 0, .int .i64 0, .int .i64 0, .int .i64 0], .bool false]) ?_ rfl ⟨(by repeat' (first | exact Below.refl _ _ | refine bel_new ?_ _ | refine Below.drew ?_)), .inr ⟨fun h => HK.out h.2, rfl⟩⟩
      rw [results_cell_tmp rfl]
      go_simp
  · go_enter Try.func84, Try.ntmps84
    go_wp2_with (first | (go_at_call 86; refine (sblock_no _ _ hs).mono ?_; rintro e w' ⟨rfl, rfl⟩))
    refine bodyPost_ret (v := .tuple #[.agg #[.int .i64 0, .int .i64 0, .int .i64 0, .int .i64 0, .int .i64 0], .bool false]) ?_ rfl ⟨(by repeat' (first | exact Below.refl _ _ | refine bel_new ?_ _ | refine Below.drew ?_)), .inr ⟨fun h => hs h.1, rfl⟩⟩
    rw [results_cell_tmp rfl]
    go_simp

theorem of_some (a b l : Int) (s : ByteArray) (w : World) : Calls Try.prog 84 #[.int .i64 a, .int .i64 b, .int .i64 l, .string s] w fun r w' => ∃ (p q m x y : Int) (o : Bool), r = .returned (.tuple #[.agg #[.int .i64 p, .int .i64 q, .int .i64 m, .int .i64 x, .int .i64 y], .bool o]) ∧ Below w.heap.size w w' :=
  (spec_ptrof a b l s w).mono fun r w' ⟨hb, h⟩ => by
    rcases h with ⟨_, h⟩ | ⟨_, h⟩
    · exact ⟨_, _, _, _, _, _, h, hb⟩
    · exact ⟨_, _, _, _, _, _, h, hb⟩


structure Box (g : Nat) (a b c d e : Int) (W : World) : Prop where
  blk : W.heap[g]? = some (.cells #[.int .i64 a, .int .i64 b, .int .i64 c, .int .i64 d, .int .i64 e] 65 (0, 0))
theorem Box.new (w : World) (a b c d e : Int) : Box w.heap.size a b c d e (w.alloc (.cells #[.int .i64 a, .int .i64 b, .int .i64 c, .int .i64 d, .int .i64 e] 65)) := ⟨heap_alloc_new w _⟩
theorem Box.lt {g : Nat} {a b c d e : Int} {W : World} (h : Box g a b c d e W) : g < W.heap.size := (Array.getElem?_eq_some_iff.1 h.blk).1
theorem Box.alloc {g : Nat} {a b c d e : Int} {W : World} (h : Box g a b c d e W) (o : Obj) : Box g a b c d e (W.alloc o) := ⟨(Below.heap_alloc W o g h.lt).trans h.blk⟩
theorem Box.grown {g B : Nat} {a b c d e : Int} {W W' : World} (h : Box g a b c d e W) (hg : W.grownBy W' (some B)) (hne : g ≠ B) : Box g a b c d e W' := ⟨(hg.block g h.lt (fun e => hne (by cases e; rfl))).trans h.blk⟩
theorem Box.below {g : Nat} {a b c d e : Int} {W W' : World} (h : Box g a b c d e W) (hb : Below W.heap.size W W') : Box g a b c d e W' := ⟨(hb.block g h.lt).trans h.blk⟩
theorem Box.cells {g : Nat} {a b c d e : Int} {W : World} (h : Box g a b c d e W) :
    (W.cell? ⟨g, 0, none⟩ = some (.int .i64 a) ∧ W.cell? ⟨g, 1, none⟩ = some (.int .i64 b) ∧ W.cell? ⟨g, 2, none⟩ = some (.int .i64 c) ∧ W.cell? ⟨g, 3, none⟩ = some (.int .i64 d) ∧ W.cell? ⟨g, 4, none⟩ = some (.int .i64 e)) ∧
    (W.frozen? ⟨g, 0, none⟩ = false ∧ W.frozen? ⟨g, 1, none⟩ = false ∧ W.frozen? ⟨g, 2, none⟩ = false ∧ W.frozen? ⟨g, 3, none⟩ = false ∧ W.frozen? ⟨g, 4, none⟩ = false) := by
  have hb := h.blk
  simp [World.cell?, World.frozen?, hb]
theorem IsRd.set {w0 w : World} {B : Nat} {A : Option Addr} {m cap p : Nat} (h : IsRd w0 w B A m cap p) {g : Nat} (hg : w0.heap.size ≤ g) (hne : g ≠ B) (k : Nat) (v : Value) : IsRd w0 (w.setCell ⟨g, k, none⟩ v) B A m cap p :=
  ⟨(Below.heap_setCell w ⟨g, k, none⟩ v B (fun e => hne e.symm)).trans h.blk, h.bts, h.old, h.bel.setCell hg v, h.few⟩
def RowPost (w0 w : World) (B : Nat) (A : Option Addr) (m cap p : Nat) (e : Ending) (w' : World) : Prop :=
  ∃ (x : Int) (p' : Nat), e = .returned (.int .i64 x) ∧ IsRd w0 w' B A m cap p' ∧ p' ≤ p + 2 ∧ w.grownBy w' (some B)

theorem some_cell (w w' : World) (B : Nat) (cs : Array Value) (t : TypeId) (n j : Nat) (hn : cs.size = n) (hj : j < n) (hall : ∀ (i : Nat) (h : i < cs.size), ∃ c : Int, cs[i] = .int .i64 c) (hB : B < w.heap.size) (g : (w.alloc (.cells cs t)).grownBy w' (some B)) :
    ∃ c : Int, w'.cell? ⟨w.heap.size, j, none⟩ = some (.int .i64 c) := by
  rw [World.cell?_of_block (g.block w.heap.size (by simp) (by intro e; cases e; omega))]
  obtain ⟨c, hc⟩ := hall j (by omega)
  refine ⟨c, ?_⟩
  rw [World.cell?_alloc_mark, Array.getElem?_eq_getElem (by omega), hc]

set_option maxRecDepth 100000 in
set_option maxHeartbeats 1000000 in
theorem row_rd (w0 w : World) (B : Nat) (A : Option Addr) (m cap p : Nat) (h : IsRd w0 w B A m cap p) (hp : p ≤ 500000) :
    Calls Try.prog 79 #[.pointer (some ⟨B, 0, none⟩)] w (RowPost w0 w B A m cap p) := by
  have hK := pick_rd w0 w B A m cap p 8 h (by omega) (by omega) (by omega)
  go_enter Try.func79, Try.ntmps79
  go_wp2_with (go_at_call 78; refine hK.mono ?_; rintro e w1 ⟨x, x0, x1, rfl, h1, g1⟩; refine Hid.out ?_)
  refine Lib.hid ?_
  clear hK
  by_cases hx : x = 0
  · subst hx
    have hK2 := fun (o : Obj) => pick_rd w0 (w1.alloc o) B A m cap (p + 1) 6 (h1.alloc o) (by omega) (by omega) (by omega)
    go_wp2_with (go_at_call 78; refine (hK2 _).mono ?_; rintro e w2 ⟨u, u0, u1, rfl, h2, g2⟩; refine Hid.out ?_)
    refine Lib.hid ?_
    obtain ⟨j, rfl⟩ : ∃ j : Nat, u = (j : Int) := ⟨u.toNat, by omega⟩
    obtain ⟨c, hc⟩ := some_cell w1 w2 B _ _ 6 j rfl (by omega) (by intro i hi; match i, hi with | 0, _ => exact ⟨_, rfl⟩ | 1, _ => exact ⟨_, rfl⟩ | 2, _ => exact ⟨_, rfl⟩ | 3, _ => exact ⟨_, rfl⟩ | 4, _ => exact ⟨_, rfl⟩ | 5, _ => exact ⟨_, rfl⟩) h1.lt g2
    have G2 := (g1.trans (World.grownBy_alloc _ _ _)).trans g2
    clear hK2 g2 h1 g1
    go_wp2_with fail
    go_ret
    exact ⟨c, _, rfl, h2, by omega, G2⟩
  · have hx' : (x == 0) = false := by simpa using hx
    have hK2 := pick_rd w0 w1 B A m cap (p + 1) 12 h1 (by omega) (by omega) (by omega)
    go_wp2_with (go_at_call 78; refine hK2.mono ?_; rintro e w2 ⟨u, u0, u1, rfl, h2, g2⟩; refine Hid.out ?_)
    refine Lib.hid ?_
    have G2 := g1.trans g2
    have hw := IntWalk.i64_in (8 + u) (by omega)
    clear hK2 g2 h1 g1
    go_wp2_with fail
    go_ret
    exact ⟨_, _, rfl, h2, by omega, G2⟩


def PtrPost2 (w0 w : World) (B : Nat) (A : Option Addr) (m cap p : Nat) (r : Ending) (w' : World) : Prop :=
  ∃ (a b c d e : Int) (p' : Nat), r = .returned (.agg #[.int .i64 a, .int .i64 b, .int .i64 c, .int .i64 d, .int .i64 e]) ∧ IsRd w0 w' B A m cap p' ∧ p' ≤ p + 40 ∧ w.grownBy w' (some B)
theorem gset {w W : World} {B g : Nat} (h : w.grownBy W (some B)) (hg : w.heap.size ≤ g) (k : Nat) (v : Value) : w.grownBy (W.setCell ⟨g, k, none⟩ v) (some B) :=
  ⟨h.os, h.tape, h.output, by simpa [World.setCell] using h.size, fun i hi hne => (Below.heap_setCell W ⟨g, k, none⟩ v i (by intro e; have e2 : i = g := e; omega)).trans (h.block i hi hne)⟩
theorem below_gr {w W W' : World} {B : Nat} (h : w.grownBy W (some B)) (hb : Below W.heap.size W W') : w.grownBy W' (some B) :=
  ⟨hb.os.trans h.os, hb.tape.trans h.tape, hb.output.trans h.output, Nat.le_trans h.size hb.size, fun i hi hne => (hb.block i (Nat.lt_of_lt_of_le hi h.size)).trans (h.block i hi hne)⟩

set_option maxRecDepth 100000 in
set_option maxHeartbeats 8000000 in
theorem ptr_gr (w0 w : World) (B : Nat) (A : Option Addr) (m cap p : Nat) (h : IsRd w0 w B A m cap p) (hp : p ≤ 400000) :
    Calls Try.prog 80 #[.pointer (some ⟨B, 0, none⟩)] w (PtrPost2 w0 w B A m cap p) := by
  have hK := fun (o : Obj) => pick_rd w0 (w.alloc o) B A m cap p 5 (h.alloc o) (by omega) (by omega) (by omega)
  have hBw := h.lt
  have h0w := h.bel.size
  have hR0 : w0.heap.size ≤ w.heap.size := h0w
  have hRB : w.heap.size ≠ B := by omega
  go_enter Try.func80, Try.ntmps80
  go_wp2_with (go_at_call 78; refine (hK _).mono ?_; rintro e w1 ⟨x, x0, x1, rfl, h1, g1⟩; refine Hid.out ?_)
  refine Lib.hid ?_
  have G := Lib.hid ((World.grownBy_alloc w _ (some B)).trans g1)
  have bR := (Box.new w 0 0 0 0 0).grown g1 (by omega)
  clear hK g1 h
  by_cases hx : x = 0
  · subst hx
    obtain ⟨⟨r0, r1, r2, r3, r4⟩, t0, t1, t2, t3, t4⟩ := bR.cells
    clear bR
    go_wp2_with fail
    refine bodyPost_ret (v := .agg #[.int .i64 0, .int .i64 0, .int .i64 0, .int .i64 0, .int .i64 0]) (by simp [results, Try.f80, go_sem, *]) rfl ⟨_, _, _, _, _, p + 1, rfl, (((((h1.set hR0 hRB 0 _).set hR0 hRB 1 _).set hR0 hRB 2 _).set hR0 hRB 3 _).set hR0 hRB 4 _), by omega, gset (gset (gset (gset (gset G.out (Nat.le_refl _) 0 _) (Nat.le_refl _) 1 _) (Nat.le_refl _) 2 _) (Nat.le_refl _) 3 _) (Nat.le_refl _) 4 _⟩
  · have hx' : (x == 0) = false := by simpa using hx
    clear hx
    have hK := pick_rd w0 w1 B A m cap (p + 1) 12 h1 (by omega) (by omega) (by omega)
    clear h1
    go_wp2_with (go_at_call 78; refine hK.mono ?_; rintro e w2 ⟨y, y0, y1, rfl, h2, g2⟩; refine Hid.out ?_)
    refine Lib.hid ?_
    have G := Lib.hid (G.out.trans g2)
    have bR := bR.grown g2 (by omega)
    have hw2 := IntWalk.i64_in (8 + y) (by omega)
    have hK := pick_rd w0 w2 B A m cap (p + 1 + 1) 9 h2 (by omega) (by omega) (by omega)
    clear h2 g2
    go_wp2_with (go_at_call 78; refine hK.mono ?_; rintro e w3 ⟨z, z0, z1, rfl, h3, g3⟩; refine Hid.out ?_)
    refine Lib.hid ?_
    have G := Lib.hid (G.out.trans g3)
    have bR := bR.grown g3 (by omega)
    have hw3 := IntWalk.i64_in (1 + z) (by omega)
    have hK := pick_rd w0 w3 B A m cap (p + 1 + 1 + 1) 3 h3 (by omega) (by omega) (by omega)
    clear h3 g3
    go_wp2_with (go_at_call 78; refine hK.mono ?_; rintro e w4 ⟨l, l0, l1, rfl, h4, g4⟩; refine Hid.out ?_)
    refine Lib.hid ?_
    have G := Lib.hid (G.out.trans g4)
    have bR := bR.grown g4 (by omega)
    have hT := text_gr w0 w4 B A m cap (p + 1 + 1 + 1 + 1) 9 h4 (by omega) (by omega)
    clear h4 g4 hK
    go_wp2_with (go_at_call 85; refine hT.mono ?_; rintro e w5 ⟨t, p5, rfl, ht, h5, hp5, g5⟩; refine Hid.out ?_)
    refine Lib.hid ?_
    have G := Lib.hid (G.out.trans g5)
    have bR := bR.grown g5 (by omega)
    have htl : t.data.toList.length ≤ 9 := by rw [Array.length_toList]; exact ht
    have hadd : ∀ w, (Op.stringOp .add ⟨#[116]⟩ t).run Try.prog w = .ok (.string (strOf ([116] ++ t.data.toList))) w := fun w => add_strs Try.prog [116] t.data.toList (by simp; omega) w
    obtain ⟨s, hs⟩ : ∃ s, s = strOf ([116] ++ t.data.toList) := ⟨_, rfl⟩
    rw [← hs] at hadd
    clear hs htl ht hT g5
    go_wp2_with (go_at_call 84; refine (of_some _ _ _ _ _).mono ?_; rintro e w6 ⟨a, b, c, d, e', o, rfl, b6⟩; refine Hid.out ?_)
    refine Lib.hid ?_
    have G := Lib.hid (below_gr G.out b6)
    have bR := bR.below b6
    have h6 := h5.below b6
    have hB6 := h6.lt
    have z6 := h6.bel.size
    have hR6 := bR.lt
    have hK := pick_rd w0 (w6.alloc (.cells #[.int .i64 a, .int .i64 b, .int .i64 c, .int .i64 d, .int .i64 e'] 65)) B A m cap p5 24 (h6.alloc _) (by omega) (by omega) (by omega)
    clear h5 b6 hadd hw2 hw3
    go_wp2_with (go_at_call 78; refine hK.mono ?_; rintro e w7 ⟨q, q0, q1, rfl, h7, g7⟩; refine Hid.out ?_)
    refine Lib.hid ?_
    have hPw : w.heap.size ≤ w6.heap.size := G.out.size
    have G := Lib.hid ((G.out.trans (World.grownBy_alloc _ _ _)).trans g7)
    have bR := (bR.alloc (.cells #[.int .i64 a, .int .i64 b, .int .i64 c, .int .i64 d, .int .i64 e'] 65)).grown g7 (by omega)
    have bP := (Box.new w6 a b c d e').grown g7 (by omega)
    have hB7 := h7.lt
    have hP0 : w0.heap.size ≤ w6.heap.size := z6
    have hPB : w6.heap.size ≠ B := by omega
    have hPR : w6.heap.size ≠ w.heap.size := by omega
    clear hK g7 h6
    by_cases hq0 : q = 0
    · subst hq0
      have hK := row_rd w0 w7 B A m cap (p5 + 1) h7 (by omega)
      go_wp2_with (go_at_call 79; refine hK.mono ?_; rintro e w8 ⟨v, p8, rfl, h8, hp8, g8⟩; refine Hid.out ?_)
      refine Lib.hid ?_
      have G := Lib.hid (G.out.trans g8)
      have bR := bR.grown g8 (by omega)
      have bP := bP.grown g8 (by omega)
      clear hK g8 h7
      obtain ⟨⟨r0, r1, r2, r3, r4⟩, t0, t1, t2, t3, t4⟩ := bR.cells
      obtain ⟨⟨u0', u1', u2', u3', u4'⟩, v0, v1, v2, v3, v4⟩ := bP.cells
      clear bR bP
      go_wp2_with fail
      refine bodyPost_ret (v := .agg #[.int .i64 v, .int .i64 b, .int .i64 c, .int .i64 d, .int .i64 e']) (by simp [results, Try.f80, go_sem, *]) rfl ⟨_, _, _, _, _, p8, rfl, ((((((h8.set hP0 hPB 0 _).set hR0 hRB 0 _).set hR0 hRB 1 _).set hR0 hRB 2 _).set hR0 hRB 3 _).set hR0 hRB 4 _), by omega, gset (gset (gset (gset (gset (gset G.out hPw 0 _) (Nat.le_refl _) 0 _) (Nat.le_refl _) 1 _) (Nat.le_refl _) 2 _) (Nat.le_refl _) 3 _) (Nat.le_refl _) 4 _⟩
    have hn0 : (q == 0) = false := by simpa using hq0
    by_cases hq1 : q = 1
    · subst hq1
      have hK := fun (o : Obj) => pick_rd w0 (w7.alloc o) B A m cap (p5 + 1) 4 (h7.alloc o) (by omega) (by omega) (by omega)
      go_wp2_with (go_at_call 78; refine (hK _).mono ?_; rintro e w8 ⟨u, u0, u1, rfl, h8, g8⟩; refine Hid.out ?_)
      refine Lib.hid ?_
      have G := Lib.hid ((G.out.trans (World.grownBy_alloc _ _ _)).trans g8)
      obtain ⟨j, rfl⟩ : ∃ j : Nat, u = (j : Int) := ⟨u.toNat, by omega⟩
      obtain ⟨v, hc⟩ := some_cell w7 w8 B _ _ 4 j rfl (by omega) (by intro i hi; match i, hi with | 0, _ => exact ⟨_, rfl⟩ | 1, _ => exact ⟨_, rfl⟩ | 2, _ => exact ⟨_, rfl⟩ | 3, _ => exact ⟨_, rfl⟩) hB7 g8
      have bR := (bR.alloc _).grown g8 (by omega)
      have bP := (bP.alloc _).grown g8 (by omega)
      clear hK g8 h7
      obtain ⟨⟨r0, r1, r2, r3, r4⟩, t0, t1, t2, t3, t4⟩ := bR.cells
      obtain ⟨⟨u0', u1', u2', u3', u4'⟩, v0, v1, v2, v3, v4⟩ := bP.cells
      clear bR bP
      go_wp2_with fail
      refine bodyPost_ret (v := .agg #[.int .i64 a, .int .i64 v, .int .i64 c, .int .i64 d, .int .i64 e']) (by simp [results, Try.f80, go_sem, *]) rfl ⟨_, _, _, _, _, p5 + 1 + 1, rfl, ((((((h8.set hP0 hPB 1 _).set hR0 hRB 0 _).set hR0 hRB 1 _).set hR0 hRB 2 _).set hR0 hRB 3 _).set hR0 hRB 4 _), by omega, gset (gset (gset (gset (gset (gset G.out hPw 1 _) (Nat.le_refl _) 0 _) (Nat.le_refl _) 1 _) (Nat.le_refl _) 2 _) (Nat.le_refl _) 3 _) (Nat.le_refl _) 4 _⟩
    have hn1 : (q == 1) = false := by simpa using hq1
    by_cases hq2 : q = 2
    · subst hq2
      have hK := fun (o : Obj) => pick_rd w0 (w7.alloc o) B A m cap (p5 + 1) 4 (h7.alloc o) (by omega) (by omega) (by omega)
      go_wp2_with (go_at_call 78; refine (hK _).mono ?_; rintro e w8 ⟨u, u0, u1, rfl, h8, g8⟩; refine Hid.out ?_)
      refine Lib.hid ?_
      have G := Lib.hid ((G.out.trans (World.grownBy_alloc _ _ _)).trans g8)
      obtain ⟨j, rfl⟩ : ∃ j : Nat, u = (j : Int) := ⟨u.toNat, by omega⟩
      obtain ⟨v, hc⟩ := some_cell w7 w8 B _ _ 4 j rfl (by omega) (by intro i hi; match i, hi with | 0, _ => exact ⟨_, rfl⟩ | 1, _ => exact ⟨_, rfl⟩ | 2, _ => exact ⟨_, rfl⟩ | 3, _ => exact ⟨_, rfl⟩) hB7 g8
      have bR := (bR.alloc _).grown g8 (by omega)
      have bP := (bP.alloc _).grown g8 (by omega)
      clear hK g8 h7
      obtain ⟨⟨r0, r1, r2, r3, r4⟩, t0, t1, t2, t3, t4⟩ := bR.cells
      obtain ⟨⟨u0', u1', u2', u3', u4'⟩, v0, v1, v2, v3, v4⟩ := bP.cells
      clear bR bP
      go_wp2_with fail
      refine bodyPost_ret (v := .agg #[.int .i64 a, .int .i64 b, .int .i64 v, .int .i64 d, .int .i64 e']) (by simp [results, Try.f80, go_sem, *]) rfl ⟨_, _, _, _, _, p5 + 1 + 1, rfl, ((((((h8.set hP0 hPB 2 _).set hR0 hRB 0 _).set hR0 hRB 1 _).set hR0 hRB 2 _).set hR0 hRB 3 _).set hR0 hRB 4 _), by omega, gset (gset (gset (gset (gset (gset G.out hPw 2 _) (Nat.le_refl _) 0 _) (Nat.le_refl _) 1 _) (Nat.le_refl _) 2 _) (Nat.le_refl _) 3 _) (Nat.le_refl _) 4 _⟩
    have hn2 : (q == 2) = false := by simpa using hq2
    by_cases hq3 : q = 3
    · subst hq3
      have hK := fun (o : Obj) => pick_rd w0 (w7.alloc o) B A m cap (p5 + 1) 4 (h7.alloc o) (by omega) (by omega) (by omega)
      go_wp2_with (go_at_call 78; refine (hK _).mono ?_; rintro e w8 ⟨u, u0, u1, rfl, h8, g8⟩; refine Hid.out ?_)
      refine Lib.hid ?_
      have G := Lib.hid ((G.out.trans (World.grownBy_alloc _ _ _)).trans g8)
      obtain ⟨j, rfl⟩ : ∃ j : Nat, u = (j : Int) := ⟨u.toNat, by omega⟩
      obtain ⟨v, hc⟩ := some_cell w7 w8 B _ _ 4 j rfl (by omega) (by intro i hi; match i, hi with | 0, _ => exact ⟨_, rfl⟩ | 1, _ => exact ⟨_, rfl⟩ | 2, _ => exact ⟨_, rfl⟩ | 3, _ => exact ⟨_, rfl⟩) hB7 g8
      have bR := (bR.alloc _).grown g8 (by omega)
      have bP := (bP.alloc _).grown g8 (by omega)
      clear hK g8 h7
      obtain ⟨⟨r0, r1, r2, r3, r4⟩, t0, t1, t2, t3, t4⟩ := bR.cells
      obtain ⟨⟨u0', u1', u2', u3', u4'⟩, v0, v1, v2, v3, v4⟩ := bP.cells
      clear bR bP
      go_wp2_with fail
      refine bodyPost_ret (v := .agg #[.int .i64 a, .int .i64 b, .int .i64 c, .int .i64 v, .int .i64 e']) (by simp [results, Try.f80, go_sem, *]) rfl ⟨_, _, _, _, _, p5 + 1 + 1, rfl, ((((((h8.set hP0 hPB 3 _).set hR0 hRB 0 _).set hR0 hRB 1 _).set hR0 hRB 2 _).set hR0 hRB 3 _).set hR0 hRB 4 _), by omega, gset (gset (gset (gset (gset (gset G.out hPw 3 _) (Nat.le_refl _) 0 _) (Nat.le_refl _) 1 _) (Nat.le_refl _) 2 _) (Nat.le_refl _) 3 _) (Nat.le_refl _) 4 _⟩
    have hn3 : (q == 3) = false := by simpa using hq3
    by_cases hq4 : q = 4
    · subst hq4
      have hK := fun (o : Obj) => pick_rd w0 (w7.alloc o) B A m cap (p5 + 1) 3 (h7.alloc o) (by omega) (by omega) (by omega)
      go_wp2_with (go_at_call 78; refine (hK _).mono ?_; rintro e w8 ⟨u, u0, u1, rfl, h8, g8⟩; refine Hid.out ?_)
      refine Lib.hid ?_
      have G := Lib.hid ((G.out.trans (World.grownBy_alloc _ _ _)).trans g8)
      obtain ⟨j, rfl⟩ : ∃ j : Nat, u = (j : Int) := ⟨u.toNat, by omega⟩
      obtain ⟨v, hc⟩ := some_cell w7 w8 B _ _ 3 j rfl (by omega) (by intro i hi; match i, hi with | 0, _ => exact ⟨_, rfl⟩ | 1, _ => exact ⟨_, rfl⟩ | 2, _ => exact ⟨_, rfl⟩) hB7 g8
      have bR := (bR.alloc _).grown g8 (by omega)
      have bP := (bP.alloc _).grown g8 (by omega)
      clear hK g8 h7
      obtain ⟨⟨r0, r1, r2, r3, r4⟩, t0, t1, t2, t3, t4⟩ := bR.cells
      obtain ⟨⟨u0', u1', u2', u3', u4'⟩, v0, v1, v2, v3, v4⟩ := bP.cells
      clear bR bP
      go_wp2_with fail
      refine bodyPost_ret (v := .agg #[.int .i64 a, .int .i64 b, .int .i64 c, .int .i64 d, .int .i64 v]) (by simp [results, Try.f80, go_sem, *]) rfl ⟨_, _, _, _, _, p5 + 1 + 1, rfl, ((((((h8.set hP0 hPB 4 _).set hR0 hRB 0 _).set hR0 hRB 1 _).set hR0 hRB 2 _).set hR0 hRB 3 _).set hR0 hRB 4 _), by omega, gset (gset (gset (gset (gset (gset G.out hPw 4 _) (Nat.le_refl _) 0 _) (Nat.le_refl _) 1 _) (Nat.le_refl _) 2 _) (Nat.le_refl _) 3 _) (Nat.le_refl _) 4 _⟩
    have hn4 : (q == 4) = false := by simpa using hq4
    obtain ⟨⟨r0, r1, r2, r3, r4⟩, t0, t1, t2, t3, t4⟩ := bR.cells
    obtain ⟨⟨u0', u1', u2', u3', u4'⟩, v0, v1, v2, v3, v4⟩ := bP.cells
    clear bR bP
    go_wp2_with fail
    refine bodyPost_ret (v := .agg #[.int .i64 a, .int .i64 b, .int .i64 c, .int .i64 d, .int .i64 e']) (by simp [results, Try.f80, go_sem, *]) rfl ⟨_, _, _, _, _, p5 + 1, rfl, (((((h7.set hR0 hRB 0 _).set hR0 hRB 1 _).set hR0 hRB 2 _).set hR0 hRB 3 _).set hR0 hRB 4 _), by omega, gset (gset (gset (gset (gset G.out (Nat.le_refl _) 0 _) (Nat.le_refl _) 1 _) (Nat.le_refl _) 2 _) (Nat.le_refl _) 3 _) (Nat.le_refl _) 4 _⟩

end Go.Proofs.Ytlmemjfinpccoaa
