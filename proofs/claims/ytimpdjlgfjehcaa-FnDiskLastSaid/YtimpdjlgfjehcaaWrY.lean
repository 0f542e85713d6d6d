/-
  DiskWrite, the program's, where it takes the write.
-/
import Derived.Test.YtimpdjlgfjehcaaWrI
namespace Go.Proofs.Ytimpdjlgfjehcaa
open Go.RowKit

theorem wt_snoc (ws : List Wt) (n : Int) (t : ByteArray) : wtCells (ws ++ [⟨n, t⟩]) = wtCells ws ++ [.int .i64 n, .string t] := by
  rw [wtCells_app]
  rfl
theorem lies_two (W : World) (n : Int) (t : ByteArray) : Lies (W.alloc (.cells #[.int .i64 n, .string t] 32)) (some ⟨W.heap.size, 0, none⟩) [.int .i64 n, .string t] := fun _ => by
  refine ⟨W.heap.size, 0, rfl, by simp, fun j v hj => ?_⟩
  rw [Nat.zero_add, World.cell?_alloc_mark]
  rcases j with _ | _ | j
  · exact hj
  · exact hj
  · simp at hj
/-- The two rows of a copy, and where they lie. -/
theorem DkOwn.rows {w : World} {base : Nat} {A B : Option Addr} {c e : Nat} {d : Dk} (h : DkOwn w base (.agg #[.slice A d.cells.length c, .slice B d.waits.length e, .bool d.gone]) d) :
    ∃ t, (t = 9 ∨ t = 51) ∧ w.ownsRow base t 1 (.slice A d.cells.length c) d.cells.length (strCells d.cells) ∧ w.ownsRow base 32 2 (.slice B d.waits.length e) d.waits.length (wtCells d.waits) := by
  obtain ⟨t, u1, u2, hv, ht, h1, h2⟩ := h
  injection hv with hv
  injection hv with hv
  injection hv with e1 hv
  injection hv with e2 hv
  subst e1; subst e2
  exact ⟨t, ht, h1, h2⟩

theorem own_set_box {w : World} {base : Nat} {t : TypeId} {sz n : Nat} {v : Value} {xs : List Value} {g : Nat} {x y z : Value} (h : w.ownsRow base t sz v n xs) (b : Bx w g 26 x y z) (ht : t ≠ 26) (i : Nat) (u : Value) : (w.setCell ⟨g, i, none⟩ u).ownsRow base t sz v n xs := by
  refine h.kept (row := some g) ⟨rfl, rfl, rfl, by simp [World.setCell], fun k _ hk => Below.heap_setCell _ _ _ k (fun e => hk (by rw [e]))⟩ (.inr ?_)
  rcases h.2 with ⟨rfl, _⟩ | ⟨g', cap, cur, rfl, hb, hgg, rest⟩
  · simp [Value.ownBlock]
  · intro e
    simp only [Value.ownBlock, Option.some.injEq] at e
    subst e
    have b' : w.heap[g']? = some (.cells #[x, y, z] 26 (0, 0)) := b
    rw [hgg] at b'
    injection b' with b'
    injection b' with _ hh
    exact ht hh
theorem DkOwn.set_box {w : World} {base g : Nat} {v x y z : Value} {d : Dk} (h : DkOwn w base v d) (b : Bx w g 26 x y z) (i : Nat) (u : Value) : DkOwn (w.setCell ⟨g, i, none⟩ u) base v d := by
  obtain ⟨t, u1, u2, e, ht, h1, h2⟩ := h
  exact ⟨t, u1, u2, e, ht, own_set_box h1 b (by rcases ht with rfl | rfl <;> decide) i u, own_set_box h2 b (by decide) i u⟩

set_option maxRecDepth 100000 in
set_option maxHeartbeats 4000000 in
theorem impl_write_yes (A B : Option Addr) (c e : Nat) (d : Dk) (n : Int) (t : ByteArray) (w : World) (hd : Bulk d) (hA : DkAt w A B d) (hok : DkOk d) (hsz : t.size ≤ maxLen) (hyes : Take d n t ∧ d.waits.length < 120) :
    Calls Try.prog 16 #[.agg #[.slice A d.cells.length c, .slice B d.waits.length e, .bool d.gone], .int .i64 n, .string t] w (DPost2 ⟨d.cells, d.waits ++ [⟨n, t⟩], d.gone⟩ true w) := by
  obtain ⟨j0, hj, hy0, hy1, hy2⟩ := info_parts Try.info32
  have K0 := TwoB.new w (.slice A d.cells.length c) (.slice B d.waits.length e) (.bool d.gone)
  have hO := okPost_yes hok (impl_ok A B c e d _ hd (hA.below K0.one.2.2.2))
  have hC := fun W hW => copied A B c e d W hd (hA.below (w' := W) hW)
  have hT := fun W => takes A B c e d n t W hsz
  have hle : w.heap.size ≤ w.heap.size + 1 := by omega
  have h120 := hyes.2
  rw [(takeB_iff d n t).2 hyes.1] at hT
  have hw : ((d.waits.length : Int) == 120) = false := by rw [beq_eq_false_iff_ne]; omega
  clear hok hA hd hyes
  go_enter Try.func16, Try.ntmps16
  go_wp2_with (go_at_call 24; refine hO.mono ?_; rintro r w2 ⟨rfl, hb2⟩; refine Hid.out ?_)
  refine Lib.hid ?_
  have K2 := K0.next hb2
  obtain ⟨x0, x1, x2, y0, y1, y2, f0, f1, f2, _⟩ := id K2
  clear hO K0 hb2
  go_wp2_with (go_at_call 33; refine (hC _ K2.one.2.2.2).mono ?_; rintro r w3 ⟨A3, c3, B3, e3, rfl, o3, hb3⟩; refine Hid.out ?_)
  refine Lib.hid ?_
  have K3 := (K2.next hb3).alloc (.cells #[.slice A3 d.cells.length c3, .slice B3 d.waits.length e3, .bool d.gone] 26)
  have bl : Below w3.heap.size w3 (w3.alloc (.cells #[.slice A3 d.cells.length c3, .slice B3 d.waits.length e3, .bool d.gone] 26)) := (Below.refl _ _).alloc (Nat.le_refl _) _
  have i3 := o3.in_.below bl
  have b3 := Bx.new w3 26 (.slice A3 d.cells.length c3) (.slice B3 d.waits.length e3) (.bool d.gone)
  have s23 := hb3.size
  have s3 := (K2.next hb3).2.2.2.2.2.2.2.2.2.2.1
  have s2 := K2.2.2.2.2.2.2.2.2.2.2.1
  clear x0 x1 x2 y0 y1 y2 f0 f1 f2 hC hb3 bl o3
  obtain ⟨x0, x1, x2, y0, y1, y2, f0, f1, f2, _⟩ := id K3
  clear K2
  go_wp2_with (go_at_call 32; refine (hT _).mono ?_; rintro r w5 ⟨rfl, hb5⟩; refine Hid.out ?_)
  refine Lib.hid ?_
  have K5 := K3.next hb5
  have i5 := i3.below hb5
  have b5 := b3.below hb5
  have s5 := hb5.size
  rw [World.size_alloc] at s5
  clear K3 i3 b3 hb5 hT x0 x1 x2 y0 y1 y2 f0 f1 f2
  obtain ⟨tt, u1, u2, hv, htt, ⟨h1, t1⟩, ⟨h2, t2⟩⟩ := i5
  injection hv with hv
  injection hv with hv
  injection hv with e1 hv
  injection hv with e2 hv
  subst e1; subst e2
  obtain ⟨x0, x1, x2, y0, y1, y2, f0, f1, f2, _⟩ := id K5
  obtain ⟨⟨z0, z1, z2⟩, _⟩ := b5.cells
  have h2b := h2.alloc (.cells #[.int .i64 n, .string t] 32)
  have HL := lies_two w5 n t
  clear hv
  go_wp2_with (at_builtin; refine wpList_append_lies2 _ rfl _ _ 24 rfl w2.heap.size 32 j0 (.agg #[.int .i64 0, .string ⟨#[]⟩]) 2 24 Try.underlying24 hj hy0 hy1 hy2 rfl (by decide) _ _ _ rfl h2b (some ⟨w5.heap.size, 0, none⟩) 1 1 [.int .i64 n, .string t] rfl rfl HL (by simp [Value.oneCell']) (by unfold maxLen; omega) (by omega) (by simp; omega) ?_; intro v' w6 o6 g6; refine Hid.out ?_)
  refine Lib.hid ?_
  have KA := K5.alloc (.cells #[.int .i64 n, .string t] 32)
  have K6 := KA.grown g6 (fun b e => by have := (h2.lt b e).1; omega)
  have b6 : Bx w6 w3.heap.size 26 (.slice A3 d.cells.length c3) (.slice B3 d.waits.length e3) (.bool d.gone) := (g6.block w3.heap.size (by simp; omega) (fun e => absurd (t2 _ e.symm) (Nat.lt_irrefl _))).trans (b5.alloc (.cells #[.int .i64 n, .string t] 32))
  have h16 := (h1.alloc (.cells #[.int .i64 n, .string t] 32)).kept g6 (own_ne h2b (h1.alloc _) (by rcases htt with rfl | rfl <;> decide))
  have s6 := g6.size
  rw [World.size_alloc] at s6
  rw [← wt_snoc] at o6
  clear K5 KA b5 h1 h2 h2b HL g6 x0 x1 x2 y0 y1 y2 f0 f1 f2 z0 z1 z2
  obtain ⟨B6, e6, rfl, _⟩ := own_lies o6
  obtain ⟨x0, x1, x2, y0, y1, y2, f0, f1, f2, _⟩ := id K6
  obtain ⟨⟨z0, z1, z2⟩, q0, q1, q2⟩ := b6.cells
  have q3 : w3.heap.size ≠ w.heap.size + 1 := by omega
  have q4 : w.heap.size + 1 ≠ w3.heap.size := by omega
  go_wp2_with fail
  have ow : DkOwn w6 (w.heap.size + 1 + 1) (.agg #[.slice A3 d.cells.length c3, .slice B6 (d.waits.length + 1) e6, .bool d.gone]) ⟨d.cells, d.waits ++ [⟨n, t⟩], d.gone⟩ :=
    ⟨tt, _, _, rfl, htt, own_base h16 (by omega), own_base (by rw [List.length_append]; exact o6) (by omega)⟩
  have ow2 := ((ow.set_box b6 1 (.slice B6 (d.waits.length + 1) e6)).box (R := w.heap.size + 1) (by omega) (.slice A3 d.cells.length c3) (.slice B6 (d.waits.length + 1) e6) (.bool d.gone)).base (base' := w.heap.size) (by omega)
  have BB := bel_box (K6.one.2.2.2.setCell (p := ⟨w3.heap.size, 1, none⟩) (by show w.heap.size ≤ w3.heap.size; omega) (.slice B6 (d.waits.length + 1) e6)) hle (.slice A3 d.cells.length c3) (.slice B6 (d.waits.length + 1) e6) (.bool d.gone)
  have hl : d.waits.length + 1 = (d.waits ++ [(⟨n, t⟩ : Wt)]).length := by rw [List.length_append]; rfl
  refine bodyPost_ret (v := .tuple #[.agg #[.slice A3 d.cells.length c3, .slice B6 (d.waits.length + 1) e6, .bool d.gone], .bool true]) (by simp [results, Try.f16, go_sem, y0, y1, y2, q4, q3]) rfl ?_
  rw [hl] at ow2 BB ⊢
  exact DPost2.mk (d := ⟨d.cells, d.waits ++ [⟨n, t⟩], d.gone⟩) ow2 BB

/-- DiskWrite, the program's. -/
theorem impl_write (A B : Option Addr) (c e : Nat) (d : Dk) (n : Int) (t : ByteArray) (w : World) (hd : Bulk d) (hA : DkAt w A B d) (hsz : t.size ≤ maxLen) :
    Calls Try.prog 16 #[.agg #[.slice A d.cells.length c, .slice B d.waits.length e, .bool d.gone], .int .i64 n, .string t] w (DPost2 (writeD d n t).1 (writeD d n t).2 w) := by
  by_cases hok : DkOk d
  · by_cases hy : Take d n t ∧ d.waits.length < 120
    · rw [writeD_yes hok ⟨hy.1.1, hy.1.2.1, hy.1.2.2.1, hy.1.2.2.2, hy.2⟩]
      exact impl_write_yes A B c e d n t w hd hA hok hsz hy
    · rw [writeD_no hok (fun h => hy ⟨⟨h.1, h.2.1, h.2.2.1, h.2.2.2.1⟩, h.2.2.2.2⟩)]
      exact impl_write_no A B c e d n t w hd hA hok hsz hy
  · rw [writeD_bad hok]
    exact impl_write_bad A B c e d n t w hd hA hok
end Go.Proofs.Ytimpdjlgfjehcaa
