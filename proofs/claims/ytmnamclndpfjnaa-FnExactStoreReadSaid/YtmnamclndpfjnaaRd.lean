/-
  What is read from a store.
-/
import Derived.Test.YtmnamclndpfjnaaPOk
import Derived.Test.YtmnamclndpfjnaaFitE
namespace Go.Proofs.Ytmnamclndpfjnaa
open Go.RowKit

def fitP (p : P5) (t : ByteArray) : Bool := (p.c == (t.size : Int)) && (p.d == sumT t.data.toList)
/-- What a valid pointer leads to in a store. -/
def readC (s : St) (p : P5) : ByteArray × Bool := if p.hole = true then (b0, true) else if fitP p (s.rows.getD p.a.toNat b0) = true then (s.rows.getD p.a.toNat b0, true) else (b0, false)
def readSt (s : St) (p : P5) : ByteArray × Bool := if StOk s ∧ p.ok = true then readC s p else (b0, false)
theorem readSt_yes {s : St} {p : P5} (h : StOk s) (hp : p.ok = true) : readSt s p = readC s p := if_pos ⟨h, hp⟩
theorem readSt_no {s : St} {p : P5} (h : ¬ (StOk s ∧ p.ok = true)) : readSt s p = (b0, false) := if_neg h
def RdPost (q : ByteArray × Bool) (w : World) (r : Ending) (w' : World) : Prop := r = .returned (.tuple #[.string q.1, .bool q.2]) ∧ Below w.heap.size w w'
/-- The cells that a reading loads. -/
def KR (H G B i : Nat) (A : Value) (a b c d e : Int) (t : ByteArray) (cur W : World) : Prop :=
  W.cell? ⟨H, 0, none⟩ = some A ∧ W.cell? ⟨G, 0, none⟩ = some (.int .i64 a) ∧ W.cell? ⟨G, 1, none⟩ = some (.int .i64 b) ∧ W.cell? ⟨G, 2, none⟩ = some (.int .i64 c) ∧ W.cell? ⟨G, 3, none⟩ = some (.int .i64 d) ∧ W.cell? ⟨G, 4, none⟩ = some (.int .i64 e) ∧ W.cell? ⟨B, i, none⟩ = some (.string t) ∧ H < W.heap.size ∧ G < W.heap.size ∧ B < W.heap.size ∧ Below cur.heap.size cur W
theorem KR.next {H G B i : Nat} {A : Value} {a b c d e : Int} {t : ByteArray} {cur W W' : World} (h : KR H G B i A a b c d e t cur W) (hb : Below W.heap.size W W') : KR H G B i A a b c d e t cur W' := by
  obtain ⟨h0, h1, h2, h3, h4, h5, h6, hH, hG, hB, hx⟩ := h
  exact ⟨(hb.cell (p := ⟨H, 0, none⟩) hH).trans h0, (hb.cell (p := ⟨G, 0, none⟩) hG).trans h1, (hb.cell (p := ⟨G, 1, none⟩) hG).trans h2, (hb.cell (p := ⟨G, 2, none⟩) hG).trans h3, (hb.cell (p := ⟨G, 3, none⟩) hG).trans h4, (hb.cell (p := ⟨G, 4, none⟩) hG).trans h5, (hb.cell (p := ⟨B, i, none⟩) hB).trans h6, Nat.lt_of_lt_of_le hH hb.size, Nat.lt_of_lt_of_le hG hb.size, Nat.lt_of_lt_of_le hB hb.size, bel_then hx hb⟩
theorem KR.drew {H G B i : Nat} {A : Value} {a b c d e : Int} {t : ByteArray} {cur W : World} (h : KR H G B i A a b c d e t cur W) : KR H G B i A a b c d e t cur W.drew := h.next (Below.refl _ _).drew
/-- A block of five cells. -/
def B5 (W : World) (g : Nat) (a b c d e : Int) : Prop := W.cell? ⟨g, 0, none⟩ = some (.int .i64 a) ∧ W.cell? ⟨g, 1, none⟩ = some (.int .i64 b) ∧ W.cell? ⟨g, 2, none⟩ = some (.int .i64 c) ∧ W.cell? ⟨g, 3, none⟩ = some (.int .i64 d) ∧ W.cell? ⟨g, 4, none⟩ = some (.int .i64 e) ∧ g < W.heap.size
theorem B5.new (w : World) (a b c d e : Int) (t : TypeId) : B5 (w.alloc (.cells #[.int .i64 a, .int .i64 b, .int .i64 c, .int .i64 d, .int .i64 e] t)) w.heap.size a b c d e := by
  have h := HP.new w a b c d e t
  exact ⟨h.1, h.2.1, h.2.2.1, h.2.2.2.1, h.2.2.2.2.1, h.2.2.2.2.2.1⟩
theorem B5.below {W W' : World} {g : Nat} {a b c d e : Int} (h : B5 W g a b c d e) (hb : Below W.heap.size W W') : B5 W' g a b c d e := by
  obtain ⟨h0, h1, h2, h3, h4, hl⟩ := h
  exact ⟨(hb.cell (p := ⟨g, 0, none⟩) hl).trans h0, (hb.cell (p := ⟨g, 1, none⟩) hl).trans h1, (hb.cell (p := ⟨g, 2, none⟩) hl).trans h2, (hb.cell (p := ⟨g, 3, none⟩) hl).trans h3, (hb.cell (p := ⟨g, 4, none⟩) hl).trans h4, Nat.lt_of_lt_of_le hl hb.size⟩
theorem B5.only {W W' : World} {g lo hi : Nat} {a b c d e : Int} (h : B5 W g a b c d e) (hg : Only lo hi W W') (hn : ¬ (lo ≤ g ∧ g < hi)) : B5 W' g a b c d e := by
  obtain ⟨h0, h1, h2, h3, h4, hl⟩ := h
  have hb := hg.block g hl hn
  exact ⟨(World.cell?_of_block (a := ⟨g, 0, none⟩) hb).trans h0, (World.cell?_of_block (a := ⟨g, 1, none⟩) hb).trans h1, (World.cell?_of_block (a := ⟨g, 2, none⟩) hb).trans h2, (World.cell?_of_block (a := ⟨g, 3, none⟩) hb).trans h3, (World.cell?_of_block (a := ⟨g, 4, none⟩) hb).trans h4, Nat.lt_of_lt_of_le hl hg.size⟩
theorem readC_hole {s : St} {p : P5} (h : p.hole = true) : readC s p = (b0, true) := if_pos h
theorem readC_fit {s : St} {p : P5} (h : p.hole = false) (hf : fitP p (s.rows.getD p.a.toNat b0) = true) : readC s p = (s.rows.getD p.a.toNat b0, true) := by unfold readC; rw [if_neg (by rw [h]; decide), if_pos hf]
theorem readC_un {s : St} {p : P5} (h : p.hole = false) (hf : fitP p (s.rows.getD p.a.toNat b0) = false) : readC s p = (b0, false) := by unfold readC; rw [if_neg (by rw [h]; decide), if_neg (by rw [hf]; decide)]

set_option maxRecDepth 100000 in
set_option maxHeartbeats 4000000 in
theorem impl_mread (x : SA) (s : St) (a b c d e : Int) (w : World) (hok : StOk s) (ht : ∀ t ∈ s.rows, t.size ≤ maxLen) (hA : StAt w x s) (hp : isOk a b c d e = true) :
    Calls Try.prog 58 #[(.agg #[.slice x.A s.rows.length x.a, .slice x.R s.sp.refs.length x.r, .slice x.L s.sp.last.length x.l, .int .i64 s.txg, .slice x.G s.gone.length x.g, .int .i64 s.keep, .slice x.D s.dead.length x.d, .bool s.same]), .agg #[.int .i64 a, .int .i64 b, .int .i64 c, .int .i64 d, .int .i64 e]] w (RdPost (readC s ⟨a, b, c, d, e⟩) w) := by
  have c0 := (B8.new w 28 (.slice x.A s.rows.length x.a) (.slice x.R s.sp.refs.length x.r) (.slice x.L s.sp.last.length x.l) (.int .i64 s.txg) (.slice x.G s.gone.length x.g) (.int .i64 s.keep) (.slice x.D s.dead.length x.d) (.bool s.same)).alloc (.cells #[.int .i64 a, .int .i64 b, .int .i64 c, .int .i64 d, .int .i64 e] 45)
  have g0 := B5.new (w.alloc (.cells #[.slice x.A s.rows.length x.a, .slice x.R s.sp.refs.length x.r, .slice x.L s.sp.last.length x.l, .int .i64 s.txg, .slice x.G s.gone.length x.g, .int .i64 s.keep, .slice x.D s.dead.length x.d, .bool s.same] 28)) a b c d e 45
  have BB : Below w.heap.size w ((w.alloc (.cells #[.slice x.A s.rows.length x.a, .slice x.R s.sp.refs.length x.r, .slice x.L s.sp.last.length x.l, .int .i64 s.txg, .slice x.G s.gone.length x.g, .int .i64 s.keep, .slice x.D s.dead.length x.d, .bool s.same] 28)).alloc (.cells #[.int .i64 a, .int .i64 b, .int .i64 c, .int .i64 d, .int .i64 e] 45)) := bel_new (bel_new (Below.refl _ _) _) _
  rw [World.size_alloc] at g0
  have hH := fun W => m_hole a b c d e W
  cases hh : isHole a b c d e with
  | true =>
    rw [readC_hole (p := ⟨a, b, c, d, e⟩) hh]
    rw [hh] at hH
    clear hok ht hA hp hh
    go_enter Try.func58, Try.ntmps58
    go_wp2_with (go_at_call 90; refine (hH _).mono ?_; rintro r w2 ⟨rfl, rfl⟩)
    go_ret2
    exact ⟨rfl, bel_new BB _⟩
  | false =>
    rw [hh] at hH
    have hbd := P5.ok_bounds (p := ⟨a, b, c, d, e⟩) hp hh
    obtain ⟨n, hn⟩ : ∃ n : Nat, a = (n : Int) := ⟨a.toNat, by have := hbd.1.1; simp only at this; omega⟩
    subst hn
    have hn64 : n < s.rows.length := by have := hbd.1.2; have := hok.len; simp only at *; omega
    have hn64i : (n : Int) < (s.rows.length : Int) := by omega
    obtain ⟨bk, of, hxA, hlb, hcell⟩ := hA.rows.str n hn64
    obtain ⟨t, htt⟩ : ∃ t, t = s.rows[n] := ⟨_, rfl⟩
    rw [← htt] at hcell
    have hget : s.rows.getD n Go.Proofs.Ytmnamclndpfjnaa.b0 = t := by rw [List.getD_eq_getElem?_getD, List.getElem?_eq_getElem hn64, Option.getD_some, htt]
    have htz : t.size ≤ maxLen := by rw [htt]; exact ht _ (List.getElem_mem hn64)
    have hyes := readC_fit (s := s) (p := ⟨(n : Int), b, c, d, e⟩) hh
    have hnot := readC_un (s := s) (p := ⟨(n : Int), b, c, d, e⟩) hh
    simp only [Int.toNat_natCast, hget] at hyes hnot
    have hF := fun W => m_fits (n : Int) b c d e t W htz
    have hcell2 := (BB.cell (p := ⟨bk, of + n, none⟩) hlb).trans hcell
    have hlb2 := Nat.lt_of_lt_of_le hlb BB.size
    obtain ⟨xA, xa, xR, xr, xL, xl, xG, xg, xD, xd⟩ := x
    dsimp only at *
    subst hxA
    obtain ⟨Q, hQ⟩ : ∃ Q, Q = readC s ⟨(n : Int), b, c, d, e⟩ := ⟨_, rfl⟩
    rw [← hQ] at hyes hnot ⊢
    obtain ⟨q, hq⟩ : ∃ q, q = fitP ⟨(n : Int), b, c, d, e⟩ t := ⟨_, rfl⟩
    rw [← hq] at hyes hnot
    unfold fitP at hq
    simp only at hq
    simp only [← hq] at hF
    have HY := Lib.hid hyes
    have HN := Lib.hid hnot
    have b2 := c0.alloc (.cells #[.int .i64 (n : Int), .int .i64 b, .int .i64 c, .int .i64 d, .int .i64 e] 45)
    have g2 := g0.below (bel_new (Below.refl _ _) (.cells #[.int .i64 (n : Int), .int .i64 b, .int .i64 c, .int .i64 d, .int .i64 e] 45))
    have B2 := bel_new BB (.cells #[.int .i64 (n : Int), .int .i64 b, .int .i64 c, .int .i64 d, .int .i64 e] 45)
    have hcell3 := ((bel_new (Below.refl _ _) (.cells #[.int .i64 (n : Int), .int .i64 b, .int .i64 c, .int .i64 d, .int .i64 e] 45)).cell (p := ⟨bk, of + n, none⟩) hlb2).trans hcell2
    have hlb3 : bk < (((w.alloc (.cells #[.slice (some ⟨bk, of, none⟩) s.rows.length xa, .slice xR s.sp.refs.length xr, .slice xL s.sp.last.length xl, .int .i64 s.txg, .slice xG s.gone.length xg, .int .i64 s.keep, .slice xD s.dead.length xd, .bool s.same] 28)).alloc (.cells #[.int .i64 (n : Int), .int .i64 b, .int .i64 c, .int .i64 d, .int .i64 e] 45)).alloc (.cells #[.int .i64 (n : Int), .int .i64 b, .int .i64 c, .int .i64 d, .int .i64 e] 45)).heap.size := Nat.lt_of_lt_of_le hlb B2.size
    have q0 : w.heap.size ≠ bk := by omega
    clear hok ht hA hp hh hbd htt hget hyes hnot hQ hq c0 g0
    go_enter Try.func58, Try.ntmps58
    go_wp2_with (go_at_call 90; refine (hH _).mono ?_; rintro r w2 ⟨rfl, rfl⟩; refine Hid.out ?_)
    refine Lib.hid ?_
    obtain ⟨W0, hW0⟩ : ∃ W, W = ((w.alloc (.cells #[.slice (some ⟨bk, of, none⟩) s.rows.length xa, .slice xR s.sp.refs.length xr, .slice xL s.sp.last.length xl, .int .i64 s.txg, .slice xG s.gone.length xg, .int .i64 s.keep, .slice xD s.dead.length xd, .bool s.same] 28)).alloc (.cells #[.int .i64 (n : Int), .int .i64 b, .int .i64 c, .int .i64 d, .int .i64 e] 45)).alloc (.cells #[.int .i64 (n : Int), .int .i64 b, .int .i64 c, .int .i64 d, .int .i64 e] 45) := ⟨_, rfl⟩
    rw [← hW0] at b2 g2 B2 hcell3 hlb3 ⊢
    clear hW0 hcell2 hlb2 BB
    obtain ⟨x0, x1, x2, x3, x4, x5, x6, x7⟩ := b2.cells
    obtain ⟨y0, y1, y2, y3, y4, hgl⟩ := id g2
    cases q with
    | true =>
      have HQ := Lib.hid (HY.out rfl)
      clear HY HN
      go_wp2_with (go_at_call 92; refine (hF _).mono ?_; rintro r w3 ⟨rfl, hb3⟩)
      go_ret2
      exact ⟨by rw [HQ.out]; rfl, bel_then B2 hb3⟩
    | false =>
      have HQ := Lib.hid (HN.out rfl)
      clear HY HN
      go_wp2_with (go_at_call 92; refine (hF _).mono ?_; rintro r w3 ⟨rfl, hb3⟩)
      go_ret2
      exact ⟨by rw [HQ.out]; rfl, bel_then B2 hb3⟩

set_option maxRecDepth 100000 in
set_option maxHeartbeats 4000000 in
theorem spec_l7read (x : SA) (s : St) (a b c d e : Int) (w : World) (hok : StOk s) (ht : ∀ t ∈ s.rows, t.size ≤ maxLen) (hA : StAt w x s) (hp : isOk a b c d e = true) :
    Calls Try.prog 56 #[(.agg #[.slice x.A s.rows.length x.a, .slice x.R s.sp.refs.length x.r, .slice x.L s.sp.last.length x.l, .int .i64 s.txg, .slice x.G s.gone.length x.g, .int .i64 s.keep, .slice x.D s.dead.length x.d, .bool s.same]), .agg #[.int .i64 a, .int .i64 b, .int .i64 c, .int .i64 d, .int .i64 e]] w (RdPost (readC s ⟨a, b, c, d, e⟩) w) := by
  have c0 := (B8.new w 28 (.slice x.A s.rows.length x.a) (.slice x.R s.sp.refs.length x.r) (.slice x.L s.sp.last.length x.l) (.int .i64 s.txg) (.slice x.G s.gone.length x.g) (.int .i64 s.keep) (.slice x.D s.dead.length x.d) (.bool s.same)).alloc (.cells #[.int .i64 a, .int .i64 b, .int .i64 c, .int .i64 d, .int .i64 e] 45)
  have g0 := B5.new (w.alloc (.cells #[.slice x.A s.rows.length x.a, .slice x.R s.sp.refs.length x.r, .slice x.L s.sp.last.length x.l, .int .i64 s.txg, .slice x.G s.gone.length x.g, .int .i64 s.keep, .slice x.D s.dead.length x.d, .bool s.same] 28)) a b c d e 45
  have BB : Below w.heap.size w ((w.alloc (.cells #[.slice x.A s.rows.length x.a, .slice x.R s.sp.refs.length x.r, .slice x.L s.sp.last.length x.l, .int .i64 s.txg, .slice x.G s.gone.length x.g, .int .i64 s.keep, .slice x.D s.dead.length x.d, .bool s.same] 28)).alloc (.cells #[.int .i64 a, .int .i64 b, .int .i64 c, .int .i64 d, .int .i64 e] 45)) := bel_new (bel_new (Below.refl _ _) _) _
  rw [World.size_alloc] at g0
  have hH := fun W => spec_hole a b c d e W
  cases hh : isHole a b c d e with
  | true =>
    rw [readC_hole (p := ⟨a, b, c, d, e⟩) hh]
    rw [hh] at hH
    clear hok ht hA hp hh
    go_enter Try.func56, Try.ntmps56
    go_wp2_with (go_at_call 51; refine (hH _).mono ?_; rintro r w2 ⟨rfl, rfl⟩)
    go_ret2
    exact ⟨rfl, bel_new BB _⟩
  | false =>
    rw [hh] at hH
    have hbd := P5.ok_bounds (p := ⟨a, b, c, d, e⟩) hp hh
    obtain ⟨n, hn⟩ : ∃ n : Nat, a = (n : Int) := ⟨a.toNat, by have := hbd.1.1; simp only at this; omega⟩
    subst hn
    have hn64 : n < s.rows.length := by have := hbd.1.2; have := hok.len; simp only at *; omega
    have hn64i : (n : Int) < (s.rows.length : Int) := by omega
    obtain ⟨bk, of, hxA, hlb, hcell⟩ := hA.rows.str n hn64
    obtain ⟨t, htt⟩ : ∃ t, t = s.rows[n] := ⟨_, rfl⟩
    rw [← htt] at hcell
    have hget : s.rows.getD n Go.Proofs.Ytmnamclndpfjnaa.b0 = t := by rw [List.getD_eq_getElem?_getD, List.getElem?_eq_getElem hn64, Option.getD_some, htt]
    have htz : t.size ≤ maxLen := by rw [htt]; exact ht _ (List.getElem_mem hn64)
    have hyes := readC_fit (s := s) (p := ⟨(n : Int), b, c, d, e⟩) hh
    have hnot := readC_un (s := s) (p := ⟨(n : Int), b, c, d, e⟩) hh
    simp only [Int.toNat_natCast, hget] at hyes hnot
    have hF := fun W => ((spec_fits (n : Int) b c d e t W htz).mono (R' := fun r w' => r = .returned (.bool ((c == (t.size : Int)) && (d == sumT t.data.toList))) ∧ Below W.heap.size W w') fun r w' ⟨h1, h2⟩ => ⟨by rw [h1]; unfold fitsB; rw [show isOk (n : Int) b c d e = true from hp, hh]; simp, h2⟩)
    have hcell2 := (BB.cell (p := ⟨bk, of + n, none⟩) hlb).trans hcell
    have hlb2 := Nat.lt_of_lt_of_le hlb BB.size
    obtain ⟨xA, xa, xR, xr, xL, xl, xG, xg, xD, xd⟩ := x
    dsimp only at *
    subst hxA
    obtain ⟨Q, hQ⟩ : ∃ Q, Q = readC s ⟨(n : Int), b, c, d, e⟩ := ⟨_, rfl⟩
    rw [← hQ] at hyes hnot ⊢
    obtain ⟨q, hq⟩ : ∃ q, q = fitP ⟨(n : Int), b, c, d, e⟩ t := ⟨_, rfl⟩
    rw [← hq] at hyes hnot
    unfold fitP at hq
    simp only at hq
    simp only [← hq] at hF
    have HY := Lib.hid hyes
    have HN := Lib.hid hnot
    have b2 := c0.alloc (.cells #[.int .i64 (n : Int), .int .i64 b, .int .i64 c, .int .i64 d, .int .i64 e] 45)
    have g2 := g0.below (bel_new (Below.refl _ _) (.cells #[.int .i64 (n : Int), .int .i64 b, .int .i64 c, .int .i64 d, .int .i64 e] 45))
    have B2 := bel_new BB (.cells #[.int .i64 (n : Int), .int .i64 b, .int .i64 c, .int .i64 d, .int .i64 e] 45)
    have hcell3 := ((bel_new (Below.refl _ _) (.cells #[.int .i64 (n : Int), .int .i64 b, .int .i64 c, .int .i64 d, .int .i64 e] 45)).cell (p := ⟨bk, of + n, none⟩) hlb2).trans hcell2
    have hlb3 : bk < (((w.alloc (.cells #[.slice (some ⟨bk, of, none⟩) s.rows.length xa, .slice xR s.sp.refs.length xr, .slice xL s.sp.last.length xl, .int .i64 s.txg, .slice xG s.gone.length xg, .int .i64 s.keep, .slice xD s.dead.length xd, .bool s.same] 28)).alloc (.cells #[.int .i64 (n : Int), .int .i64 b, .int .i64 c, .int .i64 d, .int .i64 e] 45)).alloc (.cells #[.int .i64 (n : Int), .int .i64 b, .int .i64 c, .int .i64 d, .int .i64 e] 45)).heap.size := Nat.lt_of_lt_of_le hlb B2.size
    have q0 : w.heap.size ≠ bk := by omega
    clear hok ht hA hp hh hbd htt hget hyes hnot hQ hq c0 g0
    go_enter Try.func56, Try.ntmps56
    go_wp2_with (go_at_call 51; refine (hH _).mono ?_; rintro r w2 ⟨rfl, rfl⟩; refine Hid.out ?_)
    refine Lib.hid ?_
    obtain ⟨W0, hW0⟩ : ∃ W, W = ((w.alloc (.cells #[.slice (some ⟨bk, of, none⟩) s.rows.length xa, .slice xR s.sp.refs.length xr, .slice xL s.sp.last.length xl, .int .i64 s.txg, .slice xG s.gone.length xg, .int .i64 s.keep, .slice xD s.dead.length xd, .bool s.same] 28)).alloc (.cells #[.int .i64 (n : Int), .int .i64 b, .int .i64 c, .int .i64 d, .int .i64 e] 45)).alloc (.cells #[.int .i64 (n : Int), .int .i64 b, .int .i64 c, .int .i64 d, .int .i64 e] 45) := ⟨_, rfl⟩
    rw [← hW0] at b2 g2 B2 hcell3 hlb3 ⊢
    clear hW0 hcell2 hlb2 BB
    obtain ⟨x0, x1, x2, x3, x4, x5, x6, x7⟩ := b2.cells
    obtain ⟨y0, y1, y2, y3, y4, hgl⟩ := id g2
    have K0 : KR w.heap.size (w.heap.size + 1) bk (of + n) (.slice (some ⟨bk, of, none⟩) s.rows.length xa) n b c d e t W0 W0 := ⟨x0, y0, y1, y2, y3, y4, hcell3, b2.lt, hgl, hlb3, Below.refl _ _⟩
    have K1 := K0.drew
    have hFD := hF
    clear hF
    go_wp2_with fail
    cases q with
    | true =>
      have HQ := Lib.hid (HY.out rfl)
      clear HY HN
      go_region_held3 (fun W => W.cell? ⟨w.heap.size, 0, none⟩ = some (.slice (some ⟨bk, of, none⟩) s.rows.length xa) ∧ W.cell? ⟨w.heap.size + 1, 0, none⟩ = some (.int .i64 n) ∧ W.cell? ⟨w.heap.size + 1, 1, none⟩ = some (.int .i64 b) ∧ W.cell? ⟨w.heap.size + 1, 2, none⟩ = some (.int .i64 c) ∧ W.cell? ⟨w.heap.size + 1, 3, none⟩ = some (.int .i64 d) ∧ W.cell? ⟨w.heap.size + 1, 4, none⟩ = some (.int .i64 e) ∧ W.cell? ⟨bk, of + n, none⟩ = some (.string t) ∧ w.heap.size < W.heap.size ∧ w.heap.size + 1 < W.heap.size ∧ bk < W.heap.size ∧ Below W0.heap.size W0 W)
        ((show KR w.heap.size (w.heap.size + 1) bk (of + n) (.slice (some ⟨bk, of, none⟩) s.rows.length xa) n b c d e t W0 _; with_reducible (first | exact K0 | exact K1 | exact hk2)))
        (first | (go_at_call 89; refine (hFD _).mono ?_; rintro r w2 ⟨rfl, hb2⟩; have hk2 := K1.next hb2))
      obtain ⟨x0, y0, y1, y2, y3, y4, hcell3, hl1, hl2, hl3, W2⟩ := hk2
      go_wp2_with fail
      go_ret2
      exact ⟨by rw [HQ.out]; rfl, bel_then B2 W2⟩
    | false =>
      have HQ := Lib.hid (HN.out rfl)
      clear HY HN
      go_region_held3 (fun W => W.cell? ⟨w.heap.size, 0, none⟩ = some (.slice (some ⟨bk, of, none⟩) s.rows.length xa) ∧ W.cell? ⟨w.heap.size + 1, 0, none⟩ = some (.int .i64 n) ∧ W.cell? ⟨w.heap.size + 1, 1, none⟩ = some (.int .i64 b) ∧ W.cell? ⟨w.heap.size + 1, 2, none⟩ = some (.int .i64 c) ∧ W.cell? ⟨w.heap.size + 1, 3, none⟩ = some (.int .i64 d) ∧ W.cell? ⟨w.heap.size + 1, 4, none⟩ = some (.int .i64 e) ∧ W.cell? ⟨bk, of + n, none⟩ = some (.string t) ∧ w.heap.size < W.heap.size ∧ w.heap.size + 1 < W.heap.size ∧ bk < W.heap.size ∧ Below W0.heap.size W0 W)
        ((show KR w.heap.size (w.heap.size + 1) bk (of + n) (.slice (some ⟨bk, of, none⟩) s.rows.length xa) n b c d e t W0 _; with_reducible (first | exact K0 | exact K1 | exact hk2)))
        (first | (go_at_call 89; refine (hFD _).mono ?_; rintro r w2 ⟨rfl, hb2⟩; have hk2 := K1.next hb2))
      obtain ⟨x0, y0, y1, y2, y3, y4, hcell3, hl1, hl2, hl3, W2⟩ := hk2
      go_wp2_with fail
      go_ret2
      exact ⟨by rw [HQ.out]; rfl, bel_then B2 W2⟩

set_option maxRecDepth 100000 in
set_option maxHeartbeats 4000000 in
theorem spec_sread (x : SA) (s : St) (a b c d e : Int) (w : World) (hs : SBulk s) (hA : StAt w x s) :
    Calls Try.prog 20 #[(.agg #[.slice x.A s.rows.length x.a, .slice x.R s.sp.refs.length x.r, .slice x.L s.sp.last.length x.l, .int .i64 s.txg, .slice x.G s.gone.length x.g, .int .i64 s.keep, .slice x.D s.dead.length x.d, .bool s.same]), .agg #[.int .i64 a, .int .i64 b, .int .i64 c, .int .i64 d, .int .i64 e]] w (RdPost (readSt s ⟨a, b, c, d, e⟩) w) := by
  have c0 := (B8.new w 28 (.slice x.A s.rows.length x.a) (.slice x.R s.sp.refs.length x.r) (.slice x.L s.sp.last.length x.l) (.int .i64 s.txg) (.slice x.G s.gone.length x.g) (.int .i64 s.keep) (.slice x.D s.dead.length x.d) (.bool s.same)).alloc (.cells #[.int .i64 a, .int .i64 b, .int .i64 c, .int .i64 d, .int .i64 e] 45)
  have g0 := B5.new (w.alloc (.cells #[.slice x.A s.rows.length x.a, .slice x.R s.sp.refs.length x.r, .slice x.L s.sp.last.length x.l, .int .i64 s.txg, .slice x.G s.gone.length x.g, .int .i64 s.keep, .slice x.D s.dead.length x.d, .bool s.same] 28)) a b c d e 45
  have BB : Below w.heap.size w ((w.alloc (.cells #[.slice x.A s.rows.length x.a, .slice x.R s.sp.refs.length x.r, .slice x.L s.sp.last.length x.l, .int .i64 s.txg, .slice x.G s.gone.length x.g, .int .i64 s.keep, .slice x.D s.dead.length x.d, .bool s.same] 28)).alloc (.cells #[.int .i64 a, .int .i64 b, .int .i64 c, .int .i64 d, .int .i64 e] 45)) := bel_new (bel_new (Below.refl _ _) _) _
  rw [World.size_alloc] at g0
  have hO := spec_sok x s _ hs (hA.below BB)
  have hP : ∀ W, Calls Try.prog 50 #[.agg #[.int .i64 a, .int .i64 b, .int .i64 c, .int .i64 d, .int .i64 e]] W fun r w' => r = .returned (.bool (isOk a b c d e)) ∧ Below W.heap.size W w' := fun W => (spec_pok a b c d e W).mono fun r w' ⟨h1, h2⟩ => ⟨h1, by subst h2; first | exact bel_new (bel_new (Below.refl _ _) _) _ | exact bel_new (Below.refl _ _) _⟩
  by_cases hok : StOk s
  · rw [okSt_yes hok] at hO
    cases hp : isOk a b c d e with
    | false =>
      rw [readSt_no (fun h => by have := h.2; rw [show P5.ok ⟨a, b, c, d, e⟩ = isOk a b c d e from rfl, hp] at this; cases this)]
      simp only [hp] at hP
      clear hok hs hA hp
      go_enter Try.func20, Try.ntmps20
      go_wp2_with (go_at_call 17; refine hO.mono ?_; rintro r w2 ⟨rfl, hb2⟩; refine Hid.out ?_)
      refine Lib.hid ?_
      have BB := bel_then BB hb2
      obtain ⟨y0, y1, y2, y3, y4, hgl⟩ := g0.below hb2
      clear c0 g0 hO hb2
      go_wp2_with (go_at_call 50; refine (hP _).mono ?_; rintro r w3 ⟨rfl, hb3⟩)
      go_ret2
      exact ⟨rfl, bel_then BB hb3⟩
    | true =>
      rw [readSt_yes (p := ⟨a, b, c, d, e⟩) hok hp]
      have hR := fun W (hW : Below w.heap.size w W) => spec_l7read x s a b c d e W hok hs.texts (hA.below hW) hp
      obtain ⟨Q, hQ⟩ : ∃ Q, Q = readC s ⟨a, b, c, d, e⟩ := ⟨_, rfl⟩
      simp only [← hQ] at hR ⊢
      simp only [hp] at hP
      unfold RdPost at hR
      clear hok hs hA hp hQ
      go_enter Try.func20, Try.ntmps20
      go_wp2_with (go_at_call 17; refine hO.mono ?_; rintro r w2 ⟨rfl, hb2⟩; refine Hid.out ?_)
      refine Lib.hid ?_
      have BB := bel_then BB hb2
      have c1 := c0.below hb2
      have g1 := g0.below hb2
      obtain ⟨y0, y1, y2, y3, y4, hgl⟩ := id g1
      clear c0 g0 hO hb2
      go_wp2_with (go_at_call 50; refine (hP _).mono ?_; rintro r w3 ⟨rfl, hb3⟩; refine Hid.out ?_)
      refine Lib.hid ?_
      have BB := bel_then BB hb3
      have c2 := c1.below hb3
      clear y0 y1 y2 y3 y4 hgl
      obtain ⟨y0, y1, y2, y3, y4, hgl⟩ := g1.below hb3
      obtain ⟨x0, x1, x2, x3, x4, x5, x6, x7⟩ := c2.cells
      have L := hR _ BB
      clear c1 g1 hP hb3 hR c2
      go_wp2_with (go_at_call 56; refine L.mono ?_; rintro r w4 ⟨rfl, hb4⟩)
      go_ret2
      exact ⟨rfl, bel_then BB hb4⟩
  · rw [okSt_no hok] at hO
    rw [readSt_no (fun h => hok h.1)]
    clear hok hs hA hP
    go_enter Try.func20, Try.ntmps20
    go_wp2_with (go_at_call 17; refine hO.mono ?_; rintro r w2 ⟨rfl, hb2⟩)
    go_ret2
    exact ⟨rfl, bel_then BB hb2⟩

set_option maxRecDepth 100000 in
set_option maxHeartbeats 4000000 in
theorem impl_sread (x : SA) (s : St) (a b c d e : Int) (w : World) (hs : SBulk s) (hA : StAt w x s) :
    Calls Try.prog 22 #[(.agg #[.slice x.A s.rows.length x.a, .slice x.R s.sp.refs.length x.r, .slice x.L s.sp.last.length x.l, .int .i64 s.txg, .slice x.G s.gone.length x.g, .int .i64 s.keep, .slice x.D s.dead.length x.d, .bool s.same]), .agg #[.int .i64 a, .int .i64 b, .int .i64 c, .int .i64 d, .int .i64 e]] w (RdPost (readSt s ⟨a, b, c, d, e⟩) w) := by
  have c0 := (B8.new w 28 (.slice x.A s.rows.length x.a) (.slice x.R s.sp.refs.length x.r) (.slice x.L s.sp.last.length x.l) (.int .i64 s.txg) (.slice x.G s.gone.length x.g) (.int .i64 s.keep) (.slice x.D s.dead.length x.d) (.bool s.same)).alloc (.cells #[.int .i64 a, .int .i64 b, .int .i64 c, .int .i64 d, .int .i64 e] 45)
  have g0 := B5.new (w.alloc (.cells #[.slice x.A s.rows.length x.a, .slice x.R s.sp.refs.length x.r, .slice x.L s.sp.last.length x.l, .int .i64 s.txg, .slice x.G s.gone.length x.g, .int .i64 s.keep, .slice x.D s.dead.length x.d, .bool s.same] 28)) a b c d e 45
  have BB : Below w.heap.size w ((w.alloc (.cells #[.slice x.A s.rows.length x.a, .slice x.R s.sp.refs.length x.r, .slice x.L s.sp.last.length x.l, .int .i64 s.txg, .slice x.G s.gone.length x.g, .int .i64 s.keep, .slice x.D s.dead.length x.d, .bool s.same] 28)).alloc (.cells #[.int .i64 a, .int .i64 b, .int .i64 c, .int .i64 d, .int .i64 e] 45)) := bel_new (bel_new (Below.refl _ _) _) _
  rw [World.size_alloc] at g0
  have hO := impl_mok x s _ hs (hA.below BB)
  have hP : ∀ W, Calls Try.prog 57 #[.agg #[.int .i64 a, .int .i64 b, .int .i64 c, .int .i64 d, .int .i64 e]] W fun r w' => r = .returned (.bool (isOk a b c d e)) ∧ Below W.heap.size W w' := fun W => (m_ok a b c d e W).mono fun r w' ⟨h1, h2⟩ => ⟨h1, by subst h2; first | exact bel_new (bel_new (Below.refl _ _) _) _ | exact bel_new (Below.refl _ _) _⟩
  by_cases hok : StOk s
  · rw [okSt_yes hok] at hO
    cases hp : isOk a b c d e with
    | false =>
      rw [readSt_no (fun h => by have := h.2; rw [show P5.ok ⟨a, b, c, d, e⟩ = isOk a b c d e from rfl, hp] at this; cases this)]
      simp only [hp] at hP
      clear hok hs hA hp
      go_enter Try.func22, Try.ntmps22
      go_wp2_with (go_at_call 55; refine hO.mono ?_; rintro r w2 ⟨rfl, hb2⟩; refine Hid.out ?_)
      refine Lib.hid ?_
      have BB := bel_then BB hb2
      obtain ⟨y0, y1, y2, y3, y4, hgl⟩ := g0.below hb2
      clear c0 g0 hO hb2
      go_wp2_with (go_at_call 57; refine (hP _).mono ?_; rintro r w3 ⟨rfl, hb3⟩)
      go_ret2
      exact ⟨rfl, bel_then BB hb3⟩
    | true =>
      rw [readSt_yes (p := ⟨a, b, c, d, e⟩) hok hp]
      have hR := fun W (hW : Below w.heap.size w W) => impl_mread x s a b c d e W hok hs.texts (hA.below hW) hp
      obtain ⟨Q, hQ⟩ : ∃ Q, Q = readC s ⟨a, b, c, d, e⟩ := ⟨_, rfl⟩
      simp only [← hQ] at hR ⊢
      simp only [hp] at hP
      unfold RdPost at hR
      clear hok hs hA hp hQ
      go_enter Try.func22, Try.ntmps22
      go_wp2_with (go_at_call 55; refine hO.mono ?_; rintro r w2 ⟨rfl, hb2⟩; refine Hid.out ?_)
      refine Lib.hid ?_
      have BB := bel_then BB hb2
      have c1 := c0.below hb2
      have g1 := g0.below hb2
      obtain ⟨y0, y1, y2, y3, y4, hgl⟩ := id g1
      clear c0 g0 hO hb2
      go_wp2_with (go_at_call 57; refine (hP _).mono ?_; rintro r w3 ⟨rfl, hb3⟩; refine Hid.out ?_)
      refine Lib.hid ?_
      have BB := bel_then BB hb3
      have c2 := c1.below hb3
      clear y0 y1 y2 y3 y4 hgl
      obtain ⟨y0, y1, y2, y3, y4, hgl⟩ := g1.below hb3
      obtain ⟨x0, x1, x2, x3, x4, x5, x6, x7⟩ := c2.cells
      have L := hR _ BB
      clear c1 g1 hP hb3 hR c2
      go_wp2_with (go_at_call 58; refine L.mono ?_; rintro r w4 ⟨rfl, hb4⟩)
      go_ret2
      exact ⟨rfl, bel_then BB hb4⟩
  · rw [okSt_no hok] at hO
    rw [readSt_no (fun h => hok h.1)]
    clear hok hs hA hP
    go_enter Try.func22, Try.ntmps22
    go_wp2_with (go_at_call 55; refine hO.mono ?_; rintro r w2 ⟨rfl, hb2⟩)
    go_ret2
    exact ⟨rfl, bel_then BB hb2⟩

end Go.Proofs.Ytmnamclndpfjnaa
