/-
  What is read from a disk, as the model reads it.
  A write that waits, as the model and as the program lay it.
  DiskWrite, the program's.
  DiskWrite, the program's, where it takes the write.
  DiskWrite, the model's.
-/
import Derived.Test.YtndckncoipkhaaaMB

namespace Go.Proofs.Ytndckncoipkhaaa
open Go.RowKit

def RdPost (s : ByteArray) (w : World) (r : Ending) (w' : World) : Prop := r = .returned (.string s) ∧ Below w.heap.size w w'

set_option maxRecDepth 100000 in
set_option maxHeartbeats 2000000 in
theorem spec_latest (A B : Option Addr) (c e : Nat) (d : Dk) (n : Int) (w : World) (hd : Bulk d) (hA : DkAt w A B d) (h64 : d.cells.length = 64) (hn : 0 ≤ n ∧ n ≤ 63) :
    Calls Try.prog 121 #[.agg #[.slice A d.cells.length c, .slice B d.waits.length e, .bool d.gone], .int .i64 n] w (RdPost (latest d n) w) := by
  obtain ⟨cs, ws, g⟩ := d
  obtain ⟨l1, l2⟩ := hA
  have hm := hd.waits
  simp only at l1 l2 h64 hm ⊢
  obtain ⟨k, rfl⟩ : ∃ k : Nat, n = (k : Int) := ⟨n.toNat, by omega⟩
  have hk64 : k < cs.length := by omega
  obtain ⟨bA, oA, rfl, hbA, hcA⟩ := l1.str k hk64
  have hlt : latest ⟨cs, ws, g⟩ (k : Int) = rd ws (k : Int) cs[k] ws.length := by
    show rd ws (k : Int) (cs.getD (k : Int).toNat none8) ws.length = _
    rw [Int.toNat_natCast, List.getD_eq_getElem?_getD, List.getElem?_eq_getElem hk64]
    rfl
  rw [hlt]
  obtain ⟨z, hz⟩ : ∃ z, z = cs[k] := ⟨_, rfl⟩
  rw [← hz] at hcA ⊢
  have hkc : (k : Int) < (cs.length : Int) := by omega
  clear hlt hz l1 h64 hd hn
  go_enter Try.func121, Try.ntmps121
  go_wp2
  go_loop [5] (fun i => ∃ j : Nat, j ≤ ws.length ∧ i = .int .i64 ((j : Int) - 1) ∧ rd ws (k : Int) z j = rd ws (k : Int) z ws.length) (fun i => (intOf i + 1).toNat)
  case atStart => exact ⟨ws.length, Nat.le_refl _, rfl, rfl⟩
  case round =>
    obtain ⟨j, hj, rfl, hr⟩ := hrel
    have HR := Lib.hid hr
    clear hr
    by_cases hj0 : 0 < j
    · obtain ⟨i, rfl⟩ : ∃ i, j = i + 1 := ⟨j - 1, by omega⟩
      have hi : i < ws.length := by omega
      obtain ⟨b, off, rfl, hlb, y0, y1⟩ := l2.wt i hi
      have hnx := rd_next ws (k : Int) z i hi
      obtain ⟨x, hx⟩ : ∃ x, x = ws[i].text := ⟨_, rfl⟩
      obtain ⟨m, hm'⟩ : ∃ m, m = ws[i].num := ⟨_, rfl⟩
      rw [← hx] at y1 hnx
      rw [← hm'] at y0 hnx
      have hcast : ((i + 1 : Nat) : Int) - 1 = (i : Int) := by omega
      rw [hcast]
      have hilt : (i : Int) < (ws.length : Int) := by omega
      have hw1 := IntWalk.i64_in ((i : Int) - 1) (by omega)
      by_cases hq : m = (k : Int)
      · have hq' : (m == (k : Int)) = true := by simpa using hq
        rw [if_pos hq] at hnx
        have HN := Lib.hid hnx
        clear hnx hx hm' hq hcast
        go_wp2_with fail
        go_ret
        exact ⟨by rw [← HR.out, HN.out]; rfl, bel_new (Below.refl _ _) _⟩
      · have hq' : (m == (k : Int)) = false := by simpa using hq
        rw [if_neg hq] at hnx
        have HN := Lib.hid hnx
        clear hnx hx hm' hq hcast
        go_wp2_with fail
        go_round
        case rel => exact ⟨i, by omega, rfl, by rw [← HR.out, HN.out]⟩
        case measure => simp [intOf]
    · obtain rfl : j = 0 := by omega
      have hc0 : ((0 : Nat) : Int) - 1 = -1 := rfl
      rw [hc0]
      clear hc0
      go_wp2_with fail
      go_ret
      exact ⟨by rw [← HR.out]; rfl, bel_new (Below.refl _ _) _⟩

def readPost (d : Dk) (n : Int) (w : World) (r : Ending) (w' : World) : Prop := r = .returned (.tuple #[.string (readD d n).1, .bool (readD d n).2]) ∧ Below w.heap.size w w'
theorem readD_yes {d : Dk} {n : Int} (h : DkOk d) (hg : d.gone = false) (hn : 0 ≤ n ∧ n ≤ 63) : readD d n = (latest d n, true) := if_pos ⟨h, hg, hn⟩
theorem readD_no {d : Dk} {n : Int} (h : ¬ (DkOk d ∧ d.gone = false ∧ 0 ≤ n ∧ n ≤ 63)) : readD d n = (none8, false) := if_neg h
theorem readPost.no {d : Dk} {n : Int} {w w' : World} (h : ¬ (DkOk d ∧ d.gone = false ∧ 0 ≤ n ∧ n ≤ 63)) (hb : Below w.heap.size w w') : readPost d n w (.returned (.tuple #[.string ⟨#[]⟩, .bool false])) w' := by
  refine ⟨?_, hb⟩
  rw [readD_no h]
  rfl
theorem readPost.yes {d : Dk} {n : Int} {w w' : World} (h : DkOk d) (hg : d.gone = false) (hn : 0 ≤ n ∧ n ≤ 63) (hb : Below w.heap.size w w') : readPost d n w (.returned (.tuple #[.string (latest d n), .bool true])) w' := by
  refine ⟨?_, hb⟩
  rw [readD_yes h hg hn]

end Go.Proofs.Ytndckncoipkhaaa

namespace Go.Proofs.Ytndckncoipkhaaa
open Go.RowKit

theorem writeD_bad {d : Dk} {n : Int} {t : ByteArray} (h : ¬ DkOk d) : writeD d n t = (dk0, false) := if_neg h
theorem writeD_no {d : Dk} {n : Int} {t : ByteArray} (h : DkOk d) (h2 : ¬ (d.gone = false ∧ 0 ≤ n ∧ n ≤ 63 ∧ t.size ≤ 200 ∧ d.waits.length < 120)) : writeD d n t = (d, false) := by
  unfold writeD
  rw [if_pos h, if_neg h2]
theorem writeD_yes {d : Dk} {n : Int} {t : ByteArray} (h : DkOk d) (h2 : d.gone = false ∧ 0 ≤ n ∧ n ≤ 63 ∧ t.size ≤ 200 ∧ d.waits.length < 120) : writeD d n t = (⟨d.cells, d.waits ++ [⟨n, t⟩], d.gone⟩, true) := by
  unfold writeD
  rw [if_pos h, if_pos h2]
def Take (d : Dk) (n : Int) (t : ByteArray) : Prop := d.gone = false ∧ 0 ≤ n ∧ n ≤ 63 ∧ t.size ≤ 200
def takeB (d : Dk) (n : Int) (t : ByteArray) : Bool := decide (d.gone = false ∧ 0 ≤ n ∧ n ≤ 63 ∧ t.size ≤ 200)
theorem takeB_iff (d : Dk) (n : Int) (t : ByteArray) : takeB d n t = true ↔ Take d n t := by simp [takeB, Take]
theorem takeB_no {d : Dk} {n : Int} {t : ByteArray} (h : ¬ Take d n t) : takeB d n t = false := by
  cases hb : takeB d n t with
  | false => rfl
  | true => exact absurd ((takeB_iff d n t).1 hb) h

set_option maxRecDepth 100000 in
set_option maxHeartbeats 2000000 in
theorem takes (A B : Option Addr) (c e : Nat) (d : Dk) (n : Int) (t : ByteArray) (w : World) (ht : t.size ≤ maxLen) :
    Calls Try.prog 119 #[.agg #[.slice A d.cells.length c, .slice B d.waits.length e, .bool d.gone], .int .i64 n, .string t] w fun r w' => r = .returned (.bool (takeB d n t)) ∧ Below w.heap.size w w' := by
  have hC := fun w => i_cell n w
  have hF := fun w => i_fits t w ht
  by_cases hg : d.gone = false
  · by_cases hn : 0 ≤ n ∧ n ≤ 63
    · rw [cellB_yes hn] at hC
      have hr : takeB d n t = fitB t := by rw [Bool.eq_iff_iff, takeB_iff]; simp [Take, fitB, hg, hn]
      rw [hr, hg]
      obtain ⟨f, hf⟩ : ∃ f, f = fitB t := ⟨_, rfl⟩
      rw [← hf] at hF ⊢
      clear hf hr hg hn
      cases f
      all_goals
        go_enter Try.func119, Try.ntmps119
        go_wp2_with (first | (go_at_call 115; refine (hC _).mono ?_; rintro r w' ⟨rfl, rfl⟩) | (go_at_call 114; refine (hF _).mono ?_; rintro r w' ⟨rfl, rfl⟩))
        go_ret
        exact ⟨rfl, bel_new (Below.refl _ _) _⟩
    · rw [cellB_no hn] at hC
      have hr : takeB d n t = false := takeB_no (fun h => hn ⟨h.2.1, h.2.2.1⟩)
      rw [hr, hg]
      clear hr hg hn hF
      go_enter Try.func119, Try.ntmps119
      go_wp2_with (go_at_call 115; refine (hC _).mono ?_; rintro r w' ⟨rfl, rfl⟩)
      go_ret
      exact ⟨rfl, bel_new (Below.refl _ _) _⟩
  · have hg' : d.gone = true := by simpa using hg
    have hr : takeB d n t = false := takeB_no (fun h => hg h.1)
    rw [hr, hg']
    clear hr hg hg' hF hC
    go_enter Try.func119, Try.ntmps119
    go_wp2
    go_ret
    exact ⟨rfl, bel_new (Below.refl _ _) _⟩
end Go.Proofs.Ytndckncoipkhaaa

namespace Go.Proofs.Ytndckncoipkhaaa
open Go.RowKit

theorem okPost_yes {d : Dk} (h : DkOk d) {f : FuncId} {args : Array Value} {W : World} (c : Calls Try.prog f args W (OkPost d W)) : Calls Try.prog f args W fun r w' => r = .returned (.bool true) ∧ Below W.heap.size W w' :=
  c.mono fun r w' hh => by rw [← (okD_iff d).2 h]; exact hh
theorem okPost_no {d : Dk} (h : ¬ DkOk d) {f : FuncId} {args : Array Value} {W : World} (c : Calls Try.prog f args W (OkPost d W)) : Calls Try.prog f args W fun r w' => r = .returned (.bool false) ∧ Below W.heap.size W w' :=
  c.mono fun r w' hh => by rw [← okD_no h]; exact hh
theorem dk0_own (w : World) (base : Nat) : DkOwn w base (.agg #[.slice none 0 0, .slice none 0 0, .bool false]) dk0 := ⟨9, _, _, rfl, .inl rfl, ⟨rfl, .inl ⟨rfl, rfl⟩⟩, ⟨rfl, .inl ⟨rfl, rfl⟩⟩⟩
/-- A disk comes back as it is, in the result's box. -/
theorem DPost2.mk {d : Dk} {b : Bool} {w W : World} {A B : Option Addr} {c e : Nat} (h : DkOwn W w.heap.size (.agg #[.slice A d.cells.length c, .slice B d.waits.length e, .bool d.gone]) d) (hb : Below w.heap.size w W) :
    DPost2 d b w (.returned (.tuple #[.agg #[.slice A d.cells.length c, .slice B d.waits.length e, .bool d.gone], .bool b])) W := ⟨_, _, _, _, rfl, h, hb⟩

set_option maxRecDepth 100000 in
set_option maxHeartbeats 4000000 in
theorem impl_write_bad (A B : Option Addr) (c e : Nat) (d : Dk) (n : Int) (t : ByteArray) (w : World) (hd : Bulk d) (hA : DkAt w A B d) (hok : ¬ DkOk d) :
    Calls Try.prog 93 #[.agg #[.slice A d.cells.length c, .slice B d.waits.length e, .bool d.gone], .int .i64 n, .string t] w (DPost2 dk0 false w) := by
  have K0 := TwoB.new w (.slice A d.cells.length c) (.slice B d.waits.length e) (.bool d.gone)
  have hO := okPost_no hok (impl_ok A B c e d _ hd (hA.below K0.one.2.2.2))
  have hle : w.heap.size ≤ w.heap.size + 1 := by omega
  clear hok hA hd
  go_enter Try.func93, Try.ntmps93
  go_wp2_with (go_at_call 88; refine hO.mono ?_; rintro r w2 ⟨rfl, hb2⟩; have K2 := K0.next hb2; obtain ⟨x0, x1, x2, y0, y1, y2, f0, f1, f2, _⟩ := id K2)
  exact bodyPost_ret (v := .tuple #[.agg #[.slice none 0 0, .slice none 0 0, .bool false], .bool false]) (by simp [results, Try.f93, go_sem, y0, y1, y2]) rfl (DPost2.mk (d := dk0) (dk0_own _ _) (bel_box K2.one.2.2.2 hle _ _ _))

set_option maxRecDepth 100000 in
set_option maxHeartbeats 4000000 in
theorem impl_write_no (A B : Option Addr) (c e : Nat) (d : Dk) (n : Int) (t : ByteArray) (w : World) (hd : Bulk d) (hA : DkAt w A B d) (hok : DkOk d) (hsz : t.size ≤ maxLen) (hno : ¬ (Take d n t ∧ d.waits.length < 120)) :
    Calls Try.prog 93 #[.agg #[.slice A d.cells.length c, .slice B d.waits.length e, .bool d.gone], .int .i64 n, .string t] w (DPost2 d false w) := by
  have K0 := TwoB.new w (.slice A d.cells.length c) (.slice B d.waits.length e) (.bool d.gone)
  have hO := okPost_yes hok (impl_ok A B c e d _ hd (hA.below K0.one.2.2.2))
  have hC := fun W hW => copied A B c e d W hd (hA.below (w' := W) hW)
  have hT := fun W => takes A B c e d n t W hsz
  have hle : w.heap.size ≤ w.heap.size + 1 := by omega
  have h120 := hok.2.1
  obtain ⟨b, hb⟩ : ∃ b, b = takeB d n t := ⟨_, rfl⟩
  rw [← hb] at hT
  have hw : b = true → ((d.waits.length : Int) == 120) = true := fun h => by
    have : ¬ d.waits.length < 120 := fun h2 => hno ⟨(takeB_iff d n t).1 (hb.symm.trans h), h2⟩
    simp; omega
  have HW := Lib.hid hw
  clear hok hA hd hno hb hw
  go_enter Try.func93, Try.ntmps93
  go_wp2_with (go_at_call 88; refine hO.mono ?_; rintro r w2 ⟨rfl, hb2⟩; refine Hid.out ?_)
  refine Lib.hid ?_
  have K2 := K0.next hb2
  obtain ⟨x0, x1, x2, y0, y1, y2, f0, f1, f2, _⟩ := id K2
  clear hO K0 hb2
  go_wp2_with (go_at_call 105; refine (hC _ K2.one.2.2.2).mono ?_; rintro r w3 ⟨A3, c3, B3, e3, rfl, o3, hb3⟩; refine Hid.out ?_)
  refine Lib.hid ?_
  have K3 := (K2.next hb3).alloc (.cells #[.slice A3 d.cells.length c3, .slice B3 d.waits.length e3, .bool d.gone] 60)
  have bl : Below w3.heap.size w3 (w3.alloc (.cells #[.slice A3 d.cells.length c3, .slice B3 d.waits.length e3, .bool d.gone] 60)) := (Below.refl _ _).alloc (Nat.le_refl _) _
  have o3 := o3.below bl
  have b3 := Bx.new w3 60 (.slice A3 d.cells.length c3) (.slice B3 d.waits.length e3) (.bool d.gone)
  have s3 := (K2.next hb3).2.2.2.2.2.2.2.2.2.2.1
  have s2 := K2.2.2.2.2.2.2.2.2.2.2.1
  clear x0 x1 x2 y0 y1 y2 f0 f1 f2 hC hb3 bl
  obtain ⟨x0, x1, x2, y0, y1, y2, f0, f1, f2, _⟩ := id K3
  clear K2
  go_wp2_with (go_at_call 119; refine (hT _).mono ?_; rintro r w5 ⟨rfl, hb5⟩; refine Hid.out ?_)
  refine Lib.hid ?_
  have K5 := K3.next hb5
  have o5 := (o3.below hb5).base (base' := w.heap.size + 1 + 1) (by omega)
  have b5 := b3.below hb5
  clear K3 o3 b3 hb5 hT x0 x1 x2 y0 y1 y2 f0 f1 f2
  obtain ⟨x0, x1, x2, y0, y1, y2, f0, f1, f2, _⟩ := id K5
  obtain ⟨⟨z0, z1, z2⟩, _⟩ := b5.cells
  cases b
  · go_wp2_with fail
    exact bodyPost_ret (v := .tuple #[.agg #[.slice A3 d.cells.length c3, .slice B3 d.waits.length e3, .bool d.gone], .bool false]) (by simp [results, Try.f93, go_sem, y0, y1, y2]) rfl (DPost2.mk ((o5.box (R := w.heap.size + 1) (by omega) _ _ _).base (by omega)) (bel_box K5.one.2.2.2 hle _ _ _))
  · have hw := HW.out rfl
    go_wp2_with fail
    exact bodyPost_ret (v := .tuple #[.agg #[.slice A3 d.cells.length c3, .slice B3 d.waits.length e3, .bool d.gone], .bool false]) (by simp [results, Try.f93, go_sem, y0, y1, y2]) rfl (DPost2.mk ((o5.box (R := w.heap.size + 1) (by omega) _ _ _).base (by omega)) (bel_box K5.one.2.2.2 hle _ _ _))
end Go.Proofs.Ytndckncoipkhaaa

namespace Go.Proofs.Ytndckncoipkhaaa
open Go.RowKit

theorem wt_snoc (ws : List Wt) (n : Int) (t : ByteArray) : wtCells (ws ++ [⟨n, t⟩]) = wtCells ws ++ [.int .i64 n, .string t] := by
  rw [wtCells_app]
  rfl
theorem lies_two (W : World) (n : Int) (t : ByteArray) : Lies (W.alloc (.cells #[.int .i64 n, .string t] 94)) (some ⟨W.heap.size, 0, none⟩) [.int .i64 n, .string t] := fun _ => by
  refine ⟨W.heap.size, 0, rfl, by simp, fun j v hj => ?_⟩
  rw [Nat.zero_add, World.cell?_alloc_mark]
  rcases j with _ | _ | j
  · exact hj
  · exact hj
  · simp at hj
/-- The two rows of a copy, and where they lie. -/
theorem DkOwn.rows {w : World} {base : Nat} {A B : Option Addr} {c e : Nat} {d : Dk} (h : DkOwn w base (.agg #[.slice A d.cells.length c, .slice B d.waits.length e, .bool d.gone]) d) :
    ∃ t, (t = 9 ∨ t = 84) ∧ w.ownsRow base t 1 (.slice A d.cells.length c) d.cells.length (strCells d.cells) ∧ w.ownsRow base 94 2 (.slice B d.waits.length e) d.waits.length (wtCells d.waits) := by
  obtain ⟨t, u1, u2, hv, ht, h1, h2⟩ := h
  injection hv with hv
  injection hv with hv
  injection hv with e1 hv
  injection hv with e2 hv
  subst e1; subst e2
  exact ⟨t, ht, h1, h2⟩

theorem own_set_box {w : World} {base : Nat} {t : TypeId} {sz n : Nat} {v : Value} {xs : List Value} {g : Nat} {x y z : Value} (h : w.ownsRow base t sz v n xs) (b : Bx w g 60 x y z) (ht : t ≠ 60) (i : Nat) (u : Value) : (w.setCell ⟨g, i, none⟩ u).ownsRow base t sz v n xs := by
  refine h.kept (row := some g) ⟨rfl, rfl, rfl, by simp [World.setCell], fun k _ hk => Below.heap_setCell _ _ _ k (fun e => hk (by rw [e]))⟩ (.inr ?_)
  rcases h.2 with ⟨rfl, _⟩ | ⟨g', cap, cur, rfl, hb, hgg, rest⟩
  · simp [Value.ownBlock]
  · intro e
    simp only [Value.ownBlock, Option.some.injEq] at e
    subst e
    have b' : w.heap[g']? = some (.cells #[x, y, z] 60 (0, 0)) := b
    rw [hgg] at b'
    injection b' with b'
    injection b' with _ hh
    exact ht hh
theorem DkOwn.set_box {w : World} {base g : Nat} {v x y z : Value} {d : Dk} (h : DkOwn w base v d) (b : Bx w g 60 x y z) (i : Nat) (u : Value) : DkOwn (w.setCell ⟨g, i, none⟩ u) base v d := by
  obtain ⟨t, u1, u2, e, ht, h1, h2⟩ := h
  exact ⟨t, u1, u2, e, ht, own_set_box h1 b (by rcases ht with rfl | rfl <;> decide) i u, own_set_box h2 b (by decide) i u⟩

set_option maxRecDepth 100000 in
set_option maxHeartbeats 4000000 in
theorem impl_write_yes (A B : Option Addr) (c e : Nat) (d : Dk) (n : Int) (t : ByteArray) (w : World) (hd : Bulk d) (hA : DkAt w A B d) (hok : DkOk d) (hsz : t.size ≤ maxLen) (hyes : Take d n t ∧ d.waits.length < 120) :
    Calls Try.prog 93 #[.agg #[.slice A d.cells.length c, .slice B d.waits.length e, .bool d.gone], .int .i64 n, .string t] w (DPost2 ⟨d.cells, d.waits ++ [⟨n, t⟩], d.gone⟩ true w) := by
  obtain ⟨j0, hj, hy0, hy1, hy2⟩ := info_parts Try.info94
  have K0 := TwoB.new w (.slice A d.cells.length c) (.slice B d.waits.length e) (.bool d.gone)
  have hO := okPost_yes hok (impl_ok A B c e d _ hd (hA.below K0.one.2.2.2))
  have hC := fun W hW => copied A B c e d W hd (hA.below (w' := W) hW)
  have hT := fun W => takes A B c e d n t W hsz
  have hle : w.heap.size ≤ w.heap.size + 1 := by omega
  have h120 := hyes.2
  rw [(takeB_iff d n t).2 hyes.1] at hT
  have hw : ((d.waits.length : Int) == 120) = false := by rw [beq_eq_false_iff_ne]; omega
  clear hok hA hd hyes
  go_enter Try.func93, Try.ntmps93
  go_wp2_with (go_at_call 88; refine hO.mono ?_; rintro r w2 ⟨rfl, hb2⟩; refine Hid.out ?_)
  refine Lib.hid ?_
  have K2 := K0.next hb2
  obtain ⟨x0, x1, x2, y0, y1, y2, f0, f1, f2, _⟩ := id K2
  clear hO K0 hb2
  go_wp2_with (go_at_call 105; refine (hC _ K2.one.2.2.2).mono ?_; rintro r w3 ⟨A3, c3, B3, e3, rfl, o3, hb3⟩; refine Hid.out ?_)
  refine Lib.hid ?_
  have K3 := (K2.next hb3).alloc (.cells #[.slice A3 d.cells.length c3, .slice B3 d.waits.length e3, .bool d.gone] 60)
  have bl : Below w3.heap.size w3 (w3.alloc (.cells #[.slice A3 d.cells.length c3, .slice B3 d.waits.length e3, .bool d.gone] 60)) := (Below.refl _ _).alloc (Nat.le_refl _) _
  have i3 := o3.in_.below bl
  have b3 := Bx.new w3 60 (.slice A3 d.cells.length c3) (.slice B3 d.waits.length e3) (.bool d.gone)
  have s23 := hb3.size
  have s3 := (K2.next hb3).2.2.2.2.2.2.2.2.2.2.1
  have s2 := K2.2.2.2.2.2.2.2.2.2.2.1
  clear x0 x1 x2 y0 y1 y2 f0 f1 f2 hC hb3 bl o3
  obtain ⟨x0, x1, x2, y0, y1, y2, f0, f1, f2, _⟩ := id K3
  clear K2
  go_wp2_with (go_at_call 119; refine (hT _).mono ?_; rintro r w5 ⟨rfl, hb5⟩; refine Hid.out ?_)
  refine Lib.hid ?_
  have K5 := K3.next hb5
  have i5 := i3.below hb5
  have b5 := b3.below hb5
  have s5 := hb5.size
  rw [World.size_alloc] at s5
  clear K3 i3 b3 hb5 hT x0 x1 x2 y0 y1 y2 f0 f1 f2
  obtain ⟨tt, u1, u2, hv, htt, ⟨h1, t1⟩, ⟨h2, t2⟩⟩ := i5
  injection hv with hv
  injection hv with hv
  injection hv with e1 hv
  injection hv with e2 hv
  subst e1; subst e2
  obtain ⟨x0, x1, x2, y0, y1, y2, f0, f1, f2, _⟩ := id K5
  obtain ⟨⟨z0, z1, z2⟩, _⟩ := b5.cells
  have h2b := h2.alloc (.cells #[.int .i64 n, .string t] 94)
  have HL := lies_two w5 n t
  clear hv
  go_wp2_with (at_builtin; refine wpList_append_lies2 _ rfl _ _ 58 rfl w2.heap.size 94 j0 (.agg #[.int .i64 0, .string ⟨#[]⟩]) 2 24 Try.underlying58 hj hy0 hy1 hy2 rfl (by decide) _ _ _ rfl h2b (some ⟨w5.heap.size, 0, none⟩) 1 1 [.int .i64 n, .string t] rfl rfl HL (by simp [Value.oneCell']) (by unfold maxLen; omega) (by omega) (by simp; omega) ?_; intro v' w6 o6 g6; refine Hid.out ?_)
  refine Lib.hid ?_
  have KA := K5.alloc (.cells #[.int .i64 n, .string t] 94)
  have K6 := KA.grown g6 (fun b e => by have := (h2.lt b e).1; omega)
  have b6 : Bx w6 w3.heap.size 60 (.slice A3 d.cells.length c3) (.slice B3 d.waits.length e3) (.bool d.gone) := (g6.block w3.heap.size (by simp; omega) (fun e => absurd (t2 _ e.symm) (Nat.lt_irrefl _))).trans (b5.alloc (.cells #[.int .i64 n, .string t] 94))
  have h16 := (h1.alloc (.cells #[.int .i64 n, .string t] 94)).kept g6 (own_ne h2b (h1.alloc _) (by rcases htt with rfl | rfl <;> decide))
  have s6 := g6.size
  rw [World.size_alloc] at s6
  rw [← wt_snoc] at o6
  clear K5 KA b5 h1 h2 h2b HL g6 x0 x1 x2 y0 y1 y2 f0 f1 f2 z0 z1 z2
  obtain ⟨B6, e6, rfl, _⟩ := own_lies o6
  obtain ⟨x0, x1, x2, y0, y1, y2, f0, f1, f2, _⟩ := id K6
  obtain ⟨⟨z0, z1, z2⟩, q0, q1, q2⟩ := b6.cells
  have q3 : w3.heap.size ≠ w.heap.size + 1 := by omega
  have q4 : w.heap.size + 1 ≠ w3.heap.size := by omega
  go_wp2_with fail
  have ow : DkOwn w6 (w.heap.size + 1 + 1) (.agg #[.slice A3 d.cells.length c3, .slice B6 (d.waits.length + 1) e6, .bool d.gone]) ⟨d.cells, d.waits ++ [⟨n, t⟩], d.gone⟩ :=
    ⟨tt, _, _, rfl, htt, own_base h16 (by omega), own_base (by rw [List.length_append]; exact o6) (by omega)⟩
  have ow2 := ((ow.set_box b6 1 (.slice B6 (d.waits.length + 1) e6)).box (R := w.heap.size + 1) (by omega) (.slice A3 d.cells.length c3) (.slice B6 (d.waits.length + 1) e6) (.bool d.gone)).base (base' := w.heap.size) (by omega)
  have BB := bel_box (K6.one.2.2.2.setCell (p := ⟨w3.heap.size, 1, none⟩) (by show w.heap.size ≤ w3.heap.size; omega) (.slice B6 (d.waits.length + 1) e6)) hle (.slice A3 d.cells.length c3) (.slice B6 (d.waits.length + 1) e6) (.bool d.gone)
  have hl : d.waits.length + 1 = (d.waits ++ [(⟨n, t⟩ : Wt)]).length := by rw [List.length_append]; rfl
  refine bodyPost_ret (v := .tuple #[.agg #[.slice A3 d.cells.length c3, .slice B6 (d.waits.length + 1) e6, .bool d.gone], .bool true]) (by simp [results, Try.f93, go_sem, y0, y1, y2, q4, q3]) rfl ?_
  rw [hl] at ow2 BB ⊢
  exact DPost2.mk (d := ⟨d.cells, d.waits ++ [⟨n, t⟩], d.gone⟩) ow2 BB

/-- DiskWrite, the program's. -/
theorem impl_write (A B : Option Addr) (c e : Nat) (d : Dk) (n : Int) (t : ByteArray) (w : World) (hd : Bulk d) (hA : DkAt w A B d) (hsz : t.size ≤ maxLen) :
    Calls Try.prog 93 #[.agg #[.slice A d.cells.length c, .slice B d.waits.length e, .bool d.gone], .int .i64 n, .string t] w (DPost2 (writeD d n t).1 (writeD d n t).2 w) := by
  by_cases hok : DkOk d
  · by_cases hy : Take d n t ∧ d.waits.length < 120
    · rw [writeD_yes hok ⟨hy.1.1, hy.1.2.1, hy.1.2.2.1, hy.1.2.2.2, hy.2⟩]
      exact impl_write_yes A B c e d n t w hd hA hok hsz hy
    · rw [writeD_no hok (fun h => hy ⟨⟨h.1, h.2.1, h.2.2.1, h.2.2.2.1⟩, h.2.2.2.2⟩)]
      exact impl_write_no A B c e d n t w hd hA hok hsz hy
  · rw [writeD_bad hok]
    exact impl_write_bad A B c e d n t w hd hA hok
end Go.Proofs.Ytndckncoipkhaaa

namespace Go.Proofs.Ytndckncoipkhaaa
open Go.RowKit

/-- A disk and a bool are returned, the disk in blocks from base on. -/
def OPost2 (base : Nat) (d : Dk) (b : Bool) (w : World) (r : Ending) (w' : World) : Prop :=
  ∃ A c B e, r = .returned (.tuple #[.agg #[.slice A d.cells.length c, .slice B d.waits.length e, .bool d.gone], .bool b]) ∧ DkOwn w' base (.agg #[.slice A d.cells.length c, .slice B d.waits.length e, .bool d.gone]) d ∧ Below w.heap.size w w'
theorem OPost2.mk {base : Nat} {d : Dk} {b : Bool} {w W : World} {A B : Option Addr} {c e : Nat} (h : DkOwn W base (.agg #[.slice A d.cells.length c, .slice B d.waits.length e, .bool d.gone]) d) (hb : Below w.heap.size w W) :
    OPost2 base d b w (.returned (.tuple #[.agg #[.slice A d.cells.length c, .slice B d.waits.length e, .bool d.gone], .bool b])) W := ⟨_, _, _, _, rfl, h, hb⟩

theorem TwoB.bx1 (w : World) (x y z : Value) : Bx ((w.alloc (.cells #[x, y, z] 60)).alloc (.cells #[.slice none 0 0, .slice none 0 0, .bool false] 60)) w.heap.size 60 x y z := (Bx.new w 60 x y z).alloc _
theorem TwoB.bx2 (w : World) (x y z : Value) : Bx ((w.alloc (.cells #[x, y, z] 60)).alloc (.cells #[.slice none 0 0, .slice none 0 0, .bool false] 60)) (w.heap.size + 1) 60 (.slice none 0 0) (.slice none 0 0) (.bool false) := by
  have := Bx.new (w.alloc (.cells #[x, y, z] 60)) 60 (.slice none 0 0) (.slice none 0 0) (.bool false)
  rw [World.size_alloc] at this
  exact this
/-- A box of disks takes three cells. -/
theorem Bx.set0 {W : World} {g : Nat} {t : TypeId} {x y z : Value} (h : Bx W g t x y z) (u : Value) : Bx (W.setCell ⟨g, 0, none⟩ u) g t u y z := by
  unfold Bx at h ⊢
  simp [World.setCell, Array.getElem?_modify, h]
theorem Bx.set1 {W : World} {g : Nat} {t : TypeId} {x y z : Value} (h : Bx W g t x y z) (u : Value) : Bx (W.setCell ⟨g, 1, none⟩ u) g t x u z := by
  unfold Bx at h ⊢
  simp [World.setCell, Array.getElem?_modify, h]
theorem Bx.set2 {W : World} {g : Nat} {t : TypeId} {x y z : Value} (h : Bx W g t x y z) (u : Value) : Bx (W.setCell ⟨g, 2, none⟩ u) g t x y u := by
  unfold Bx at h ⊢
  simp [World.setCell, Array.getElem?_modify, h]
theorem DkOwn.box2 {w : World} {base g : Nat} {v x y z : Value} {d : Dk} (h : DkOwn w base v d) (b : Bx w g 60 x y z) (p q r : Value) : DkOwn (((w.setCell ⟨g, 0, none⟩ p).setCell ⟨g, 1, none⟩ q).setCell ⟨g, 2, none⟩ r) base v d :=
  ((h.set_box b 0 p).set_box (b.set0 p) 1 q).set_box ((b.set0 p).set1 q) 2 r

set_option maxRecDepth 100000 in
set_option maxHeartbeats 4000000 in
theorem l3write_no (base : Nat) (A B : Option Addr) (c e : Nat) (d : Dk) (n : Int) (t : ByteArray) (w : World) (hA : DkOwn w base (.agg #[.slice A d.cells.length c, .slice B d.waits.length e, .bool d.gone]) d) (hok : DkOk d) (hsz : t.size ≤ maxLen) (hno : ¬ (Take d n t ∧ d.waits.length < 120)) :
    Calls Try.prog 89 #[.agg #[.slice A d.cells.length c, .slice B d.waits.length e, .bool d.gone], .int .i64 n, .string t] w (OPost2 base d false w) := by
  have hC := fun w => s_cell n w
  have bl : Below w.heap.size w ((w.alloc (.cells #[.slice A d.cells.length c, .slice B d.waits.length e, .bool d.gone] 60)).alloc (.cells #[.slice A d.cells.length c, .slice B d.waits.length e, .bool d.gone] 60)) := bel_new (bel_new (Below.refl _ _) _) _
  have fin := OPost2.mk (b := false) (hA.below bl) bl
  have h120 := hok.2.1
  unfold maxLen at hsz
  clear bl hA
  by_cases hg : d.gone = false
  · by_cases hn : 0 ≤ n ∧ n ≤ 63
    · rw [cellB_yes hn] at hC
      have hno2 : t.size ≤ 200 → ¬ d.waits.length < 120 := fun hs h2 => hno ⟨⟨hg, hn.1, hn.2, hs⟩, h2⟩
      rw [hg] at fin ⊢
      have FIN := Lib.hid fin
      clear hno hok hn h120 hg fin
      by_cases hs : t.size ≤ 200
      · have hs' : ¬ (200 : Int) < (t.size : Int) := by omega
        have hw : (120 : Int) ≤ (d.waits.length : Int) := by have := hno2 hs; omega
        clear hs hno2
        go_enter Try.func89, Try.ntmps89
        go_wp2_with (go_at_call 84; refine (hC _).mono ?_; rintro r w' ⟨rfl, rfl⟩)
        exact bodyPost_ret (v := .tuple #[.agg #[.slice A d.cells.length c, .slice B d.waits.length e, .bool false], .bool false]) (by simp [results, Try.f89, go_sem]) rfl FIN.out
      · have hs' : (200 : Int) < (t.size : Int) := by omega
        clear hs hno2
        go_enter Try.func89, Try.ntmps89
        go_wp2_with (go_at_call 84; refine (hC _).mono ?_; rintro r w' ⟨rfl, rfl⟩)
        exact bodyPost_ret (v := .tuple #[.agg #[.slice A d.cells.length c, .slice B d.waits.length e, .bool false], .bool false]) (by simp [results, Try.f89, go_sem]) rfl FIN.out
    · rw [cellB_no hn] at hC
      rw [hg] at fin ⊢
      have FIN := Lib.hid fin
      clear hno hok hn h120 hg fin
      go_enter Try.func89, Try.ntmps89
      go_wp2_with (go_at_call 84; refine (hC _).mono ?_; rintro r w' ⟨rfl, rfl⟩)
      exact bodyPost_ret (v := .tuple #[.agg #[.slice A d.cells.length c, .slice B d.waits.length e, .bool false], .bool false]) (by simp [results, Try.f89, go_sem]) rfl FIN.out
  · have hg' : d.gone = true := by simpa using hg
    rw [hg'] at fin ⊢
    have FIN := Lib.hid fin
    clear hno hok h120 hg hg' hC fin
    go_enter Try.func89, Try.ntmps89
    go_wp2
    exact bodyPost_ret (v := .tuple #[.agg #[.slice A d.cells.length c, .slice B d.waits.length e, .bool true], .bool false]) (by simp [results, Try.f89, go_sem]) rfl FIN.out

set_option maxRecDepth 100000 in
set_option maxHeartbeats 4000000 in
theorem l3write_yes (base : Nat) (A B : Option Addr) (c e : Nat) (d : Dk) (n : Int) (t : ByteArray) (w : World) (hbase : base ≤ w.heap.size) (hA : DkOwn w base (.agg #[.slice A d.cells.length c, .slice B d.waits.length e, .bool d.gone]) d) (hsz : t.size ≤ maxLen) (hyes : Take d n t ∧ d.waits.length < 120) :
    Calls Try.prog 89 #[.agg #[.slice A d.cells.length c, .slice B d.waits.length e, .bool d.gone], .int .i64 n, .string t] w (OPost2 base ⟨d.cells, d.waits ++ [⟨n, t⟩], d.gone⟩ true w) := by
  obtain ⟨j0, hj, hy0, hy1, hy2⟩ := info_parts Try.info94
  obtain ⟨⟨hg, hn1, hn2, hs⟩, h120⟩ := hyes
  have hC := fun w => s_cell n w
  rw [cellB_yes ⟨hn1, hn2⟩] at hC
  have hs' : ¬ (200 : Int) < (t.size : Int) := by omega
  have hw : ¬ (120 : Int) ≤ (d.waits.length : Int) := by omega
  have K0 := TwoB.new w (.slice A d.cells.length c) (.slice B d.waits.length e) (.bool d.gone)
  have bx := TwoB.bx1 w (.slice A d.cells.length c) (.slice B d.waits.length e) (.bool d.gone)
  have by_ := TwoB.bx2 w (.slice A d.cells.length c) (.slice B d.waits.length e) (.bool d.gone)
  have hl := hA.lies.2
  obtain ⟨tt, htt, h1, h2⟩ := hA.rows
  have s0 : w.heap.size + 1 + 1 ≤ ((w.alloc (.cells #[.slice A d.cells.length c, .slice B d.waits.length e, .bool d.gone] 60)).alloc (.cells #[.slice none 0 0, .slice none 0 0, .bool false] 60)).heap.size := by simp
  have h1 := own_bel h1 K0.one.2.2.2
  have hl := hl.below K0.one.2.2.2
  clear hA
  rw [hg] at K0 bx by_ h1 hl s0 ⊢
  clear hg hs h2
  unfold maxLen at hsz
  go_enter Try.func89, Try.ntmps89
  go_upto_region 3 with (go_at_call 84; refine (hC _).mono ?_; rintro r w' ⟨rfl, rfl⟩)
  obtain ⟨W0, hW0⟩ : ∃ W, W = (w.alloc (.cells #[.slice A d.cells.length c, .slice B d.waits.length e, .bool false] 60)).alloc (.cells #[.slice none 0 0, .slice none 0 0, .bool false] 60) := ⟨_, rfl⟩
  rw [← hW0] at K0 s0 bx by_ h1 hl ⊢
  clear hW0
  obtain ⟨x0, x1, x2, y0, y1, y2, f0, f1, f2, sg, sh, B0⟩ := id K0
  have hm := World.ownsRow_made (e := 94) (size := 2) (base := w.heap.size + 1 + 1) W0 #[] 0 s0 (Nat.zero_le _) rfl
  have hl1 := hl.alloc (.cells #[] 94)
  go_wp2_with (at_builtin; refine wpList_append_lies2 _ rfl _ _ 58 rfl (w.heap.size + 1 + 1) 94 j0 (.agg #[.int .i64 0, .string ⟨#[]⟩]) 2 24 Try.underlying58 hj hy0 hy1 hy2 rfl (by decide) _ _ _ rfl hm B d.waits.length e (wtCells d.waits) rfl (wtCells_len _) hl1 (wtCells_one _) (by unfold maxLen; omega) (by omega) (by simp; omega) ?_; intro v5 w5 o5 g5; refine Hid.out ?_)
  refine Lib.hid ?_
  rw [Nat.zero_add, List.nil_append] at o5
  have g5 : (W0.alloc (.cells #[] 94)).grownBy w5 (some W0.heap.size) := g5
  have s5 := g5.size
  rw [World.size_alloc] at s5
  have K5 := (K0.alloc (.cells #[] 94)).grown g5 (fun b e => by cases e; omega)
  have bx5 : Bx w5 w.heap.size 60 _ _ _ := (g5.block w.heap.size (by simp; omega) (fun e => by injection e with e; omega)).trans (bx.alloc (.cells #[] 94))
  have by5 : Bx w5 (w.heap.size + 1) 60 _ _ _ := (g5.block (w.heap.size + 1) (by simp; omega) (fun e => by injection e with e; omega)).trans (by_.alloc (.cells #[] 94))
  have h15 := (h1.alloc (.cells #[] 94)).kept g5 (.inr (fun e => absurd (h1.lt _ e).2 (Nat.lt_irrefl _)))
  obtain ⟨B5, e5, rfl, _⟩ := own_lies o5
  clear hm hl1 g5 h1 hl x0 x1 x2 y0 y1 y2 f0 f1 f2 sg sh B0 K0 bx by_
  obtain ⟨x0, x1, x2, y0, y1, y2, f0, f1, f2, sg, sh, B0⟩ := id K5
  have h2b := o5.alloc (.cells #[.int .i64 n, .string t] 94)
  have HL := lies_two w5 n t
  go_wp2_with (at_builtin; refine wpList_append_lies2 _ rfl _ _ 58 rfl (w.heap.size + 1 + 1) 94 j0 (.agg #[.int .i64 0, .string ⟨#[]⟩]) 2 24 Try.underlying58 hj hy0 hy1 hy2 rfl (by decide) _ _ _ rfl h2b (some ⟨w5.heap.size, 0, none⟩) 1 1 [.int .i64 n, .string t] rfl rfl HL (by simp [Value.oneCell']) (by unfold maxLen; omega) (by omega) (by simp; omega) ?_; intro v6 w6 o6 g6; refine Hid.out ?_)
  refine Lib.hid ?_
  have g6 : (w5.alloc (.cells #[.int .i64 n, .string t] 94)).grownBy w6 (Value.slice B5 d.waits.length e5).ownBlock := g6
  have KA := K5.alloc (.cells #[.int .i64 n, .string t] 94)
  have K6 := KA.grown g6 (fun b e => by have := (o5.lt b e).1; omega)
  have bx6 : Bx w6 w.heap.size 60 _ _ _ := (g6.block w.heap.size (by simp; omega) (fun e => by have := (o5.lt _ e.symm).1; omega)).trans (bx5.alloc (.cells #[.int .i64 n, .string t] 94))
  have by6 : Bx w6 (w.heap.size + 1) 60 _ _ _ := (g6.block (w.heap.size + 1) (by simp; omega) (fun e => by have := (o5.lt _ e.symm).1; omega)).trans (by5.alloc (.cells #[.int .i64 n, .string t] 94))
  have h16 := (h15.alloc (.cells #[.int .i64 n, .string t] 94)).kept g6 (own_ne h2b (h15.alloc _) (by rcases htt with rfl | rfl <;> decide))
  rw [← wt_snoc] at o6
  clear h2b HL g6 x0 x1 x2 y0 y1 y2 f0 f1 f2 sg sh B0 K5 KA bx5 by5 h15 o5
  obtain ⟨B6, e6, rfl, _⟩ := own_lies o6
  obtain ⟨x0, x1, x2, y0, y1, y2, f0, f1, f2, sg, sh, B0⟩ := id K6
  obtain ⟨_, q0, q1, q2⟩ := bx6.cells
  have q3 : w.heap.size ≠ w.heap.size + 1 := by omega
  go_wp2_with fail
  have ow : DkOwn w6 base (.agg #[.slice A d.cells.length c, .slice B6 (d.waits.length + 1) e6, .bool false]) ⟨d.cells, d.waits ++ [⟨n, t⟩], false⟩ :=
    ⟨tt, _, _, rfl, htt, h16, own_base (by rw [List.length_append]; exact o6) (by omega)⟩
  have ow2 := (ow.set_box bx6 1 (.slice B6 (d.waits.length + 1) e6)).box2 (by6.set (p := ⟨w.heap.size, 1, none⟩) (by simp) (.slice B6 (d.waits.length + 1) e6)) (.slice A d.cells.length c) (.slice B6 (d.waits.length + 1) e6) (.bool false)
  have BB := bel_box (B0.setCell (p := ⟨w.heap.size, 1, none⟩) (Nat.le_refl _) (.slice B6 (d.waits.length + 1) e6)) (show w.heap.size ≤ w.heap.size + 1 by omega) (.slice A d.cells.length c) (.slice B6 (d.waits.length + 1) e6) (.bool false)
  have hll : d.waits.length + 1 = (d.waits ++ [(⟨n, t⟩ : Wt)]).length := by rw [List.length_append]; rfl
  refine bodyPost_ret (v := .tuple #[.agg #[.slice A d.cells.length c, .slice B6 (d.waits.length + 1) e6, .bool false], .bool true]) (by simp [results, Try.f89, go_sem, y0, y1, y2]) rfl ?_
  rw [hll] at ow2 BB ⊢
  exact OPost2.mk (d := ⟨d.cells, d.waits ++ [⟨n, t⟩], false⟩) ow2 BB

theorem l3write (base : Nat) (A B : Option Addr) (c e : Nat) (d : Dk) (n : Int) (t : ByteArray) (w : World) (hbase : base ≤ w.heap.size) (hA : DkOwn w base (.agg #[.slice A d.cells.length c, .slice B d.waits.length e, .bool d.gone]) d) (hok : DkOk d) (hsz : t.size ≤ maxLen) :
    Calls Try.prog 89 #[.agg #[.slice A d.cells.length c, .slice B d.waits.length e, .bool d.gone], .int .i64 n, .string t] w (OPost2 base (writeD d n t).1 (writeD d n t).2 w) := by
  by_cases hy : Take d n t ∧ d.waits.length < 120
  · rw [writeD_yes hok ⟨hy.1.1, hy.1.2.1, hy.1.2.2.1, hy.1.2.2.2, hy.2⟩]
    exact l3write_yes base A B c e d n t w hbase hA hsz hy
  · rw [writeD_no hok (fun h => hy ⟨⟨h.1, h.2.1, h.2.2.1, h.2.2.2.1⟩, h.2.2.2.2⟩)]
    exact l3write_no base A B c e d n t w hA hok hsz hy

end Go.Proofs.Ytndckncoipkhaaa
