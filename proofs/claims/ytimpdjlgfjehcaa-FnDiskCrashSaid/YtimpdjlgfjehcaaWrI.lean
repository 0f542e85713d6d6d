/-
  DiskWrite, the program's.
-/
import Derived.Test.YtimpdjlgfjehcaaWr
namespace Go.Proofs.Ytimpdjlgfjehcaa
open Go.RowKit

theorem okPost_yes {d : Dk} (h : DkOk d) {f : FuncId} {args : Array Value} {W : World} (c : Calls Try.prog f args W (OkPost d W)) : Calls Try.prog f args W fun r w' => r = .returned (.bool true) ∧ Below W.heap.size W w' :=
  c.mono fun r w' hh => by rw [← (okD_iff d).2 h]; exact hh
theorem okPost_no {d : Dk} (h : ¬ DkOk d) {f : FuncId} {args : Array Value} {W : World} (c : Calls Try.prog f args W (OkPost d W)) : Calls Try.prog f args W fun r w' => r = .returned (.bool false) ∧ Below W.heap.size W w' :=
  c.mono fun r w' hh => by rw [← okD_no h]; exact hh
theorem dk0_own (w : World) (base : Nat) : DkOwn w base (.agg #[.slice none 0 0, .slice none 0 0, .bool false]) dk0 := ⟨9, _, _, rfl, .inl rfl, ⟨rfl, .inl ⟨rfl, rfl⟩⟩, ⟨rfl, .inl ⟨rfl, rfl⟩⟩⟩
/-- A disk comes back as it is, in the result's box. -/
theorem DPost2.mk {d : Dk} {b : Bool} {w W : World} {A B : Option Addr} {c e : Nat} (h : DkOwn W w.heap.size (.agg #[.slice A d.cells.length c, .slice B d.waits.length e, .bool d.gone]) d) (hb : Below w.heap.size w W) :
    DPost2 d b w (.returned (.tuple #[.agg #[.slice A d.cells.length c, .slice B d.waits.length e, .bool d.gone], .bool b])) W := ⟨_, _, _, _, rfl, h, hb⟩

set_option maxRecDepth 100000 in
set_option maxHeartbeats 4000000 in
theorem impl_write_bad (A B : Option Addr) (c e : Nat) (d : Dk) (n : Int) (t : ByteArray) (w : World) (hd : Bulk d) (hA : DkAt w A B d) (hok : ¬ DkOk d) :
    Calls Try.prog 16 #[.agg #[.slice A d.cells.length c, .slice B d.waits.length e, .bool d.gone], .int .i64 n, .string t] w (DPost2 dk0 false w) := by
  have K0 := TwoB.new w (.slice A d.cells.length c) (.slice B d.waits.length e) (.bool d.gone)
  have hO := okPost_no hok (impl_ok A B c e d _ hd (hA.below K0.one.2.2.2))
  have hle : w.heap.size ≤ w.heap.size + 1 := by omega
  clear hok hA hd
  go_enter Try.func16, Try.ntmps16
  go_wp2_with (go_at_call 24; refine hO.mono ?_; rintro r w2 ⟨rfl, hb2⟩; have K2 := K0.next hb2; obtain ⟨x0, x1, x2, y0, y1, y2, f0, f1, f2, _⟩ := id K2)
  exact bodyPost_ret (v := .tuple #[.agg #[.slice none 0 0, .slice none 0 0, .bool false], .bool false]) (by simp [results, Try.f16, go_sem, y0, y1, y2]) rfl (DPost2.mk (d := dk0) (dk0_own _ _) (bel_box K2.one.2.2.2 hle _ _ _))

set_option maxRecDepth 100000 in
set_option maxHeartbeats 4000000 in
theorem impl_write_no (A B : Option Addr) (c e : Nat) (d : Dk) (n : Int) (t : ByteArray) (w : World) (hd : Bulk d) (hA : DkAt w A B d) (hok : DkOk d) (hsz : t.size ≤ maxLen) (hno : ¬ (Take d n t ∧ d.waits.length < 120)) :
    Calls Try.prog 16 #[.agg #[.slice A d.cells.length c, .slice B d.waits.length e, .bool d.gone], .int .i64 n, .string t] w (DPost2 d false w) := by
  have K0 := TwoB.new w (.slice A d.cells.length c) (.slice B d.waits.length e) (.bool d.gone)
  have hO := okPost_yes hok (impl_ok A B c e d _ hd (hA.below K0.one.2.2.2))
  have hC := fun W hW => copied A B c e d W hd (hA.below (w' := W) hW)
  have hT := fun W => takes A B c e d n t W hsz
  have hle : w.heap.size ≤ w.heap.size + 1 := by omega
  have h120 := hok.2.1
  obtain ⟨b, hb⟩ : ∃ b, b = takeB d n t := ⟨_, rfl⟩
  rw [← hb] at hT
  have hw : b = true → ((d.waits.length : Int) == 120) = true := fun h => by
    have : ¬ d.waits.length < 120 := fun h2 => hno ⟨(takeB_iff d n t).1 (hb.symm.trans h), h2⟩
    simp; omega
  have HW := Lib.hid hw
  clear hok hA hd hno hb hw
  go_enter Try.func16, Try.ntmps16
  go_wp2_with (go_at_call 24; refine hO.mono ?_; rintro r w2 ⟨rfl, hb2⟩; refine Hid.out ?_)
  refine Lib.hid ?_
  have K2 := K0.next hb2
  obtain ⟨x0, x1, x2, y0, y1, y2, f0, f1, f2, _⟩ := id K2
  clear hO K0 hb2
  go_wp2_with (go_at_call 33; refine (hC _ K2.one.2.2.2).mono ?_; rintro r w3 ⟨A3, c3, B3, e3, rfl, o3, hb3⟩; refine Hid.out ?_)
  refine Lib.hid ?_
  have K3 := (K2.next hb3).alloc (.cells #[.slice A3 d.cells.length c3, .slice B3 d.waits.length e3, .bool d.gone] 26)
  have bl : Below w3.heap.size w3 (w3.alloc (.cells #[.slice A3 d.cells.length c3, .slice B3 d.waits.length e3, .bool d.gone] 26)) := (Below.refl _ _).alloc (Nat.le_refl _) _
  have o3 := o3.below bl
  have b3 := Bx.new w3 26 (.slice A3 d.cells.length c3) (.slice B3 d.waits.length e3) (.bool d.gone)
  have s3 := (K2.next hb3).2.2.2.2.2.2.2.2.2.2.1
  have s2 := K2.2.2.2.2.2.2.2.2.2.2.1
  clear x0 x1 x2 y0 y1 y2 f0 f1 f2 hC hb3 bl
  obtain ⟨x0, x1, x2, y0, y1, y2, f0, f1, f2, _⟩ := id K3
  clear K2
  go_wp2_with (go_at_call 32; refine (hT _).mono ?_; rintro r w5 ⟨rfl, hb5⟩; refine Hid.out ?_)
  refine Lib.hid ?_
  have K5 := K3.next hb5
  have o5 := (o3.below hb5).base (base' := w.heap.size + 1 + 1) (by omega)
  have b5 := b3.below hb5
  clear K3 o3 b3 hb5 hT x0 x1 x2 y0 y1 y2 f0 f1 f2
  obtain ⟨x0, x1, x2, y0, y1, y2, f0, f1, f2, _⟩ := id K5
  obtain ⟨⟨z0, z1, z2⟩, _⟩ := b5.cells
  cases b
  · go_wp2_with fail
    exact bodyPost_ret (v := .tuple #[.agg #[.slice A3 d.cells.length c3, .slice B3 d.waits.length e3, .bool d.gone], .bool false]) (by simp [results, Try.f16, go_sem, y0, y1, y2]) rfl (DPost2.mk ((o5.box (R := w.heap.size + 1) (by omega) _ _ _).base (by omega)) (bel_box K5.one.2.2.2 hle _ _ _))
  · have hw := HW.out rfl
    go_wp2_with fail
    exact bodyPost_ret (v := .tuple #[.agg #[.slice A3 d.cells.length c3, .slice B3 d.waits.length e3, .bool d.gone], .bool false]) (by simp [results, Try.f16, go_sem, y0, y1, y2]) rfl (DPost2.mk ((o5.box (R := w.heap.size + 1) (by omega) _ _ _).base (by omega)) (bel_box K5.one.2.2.2 hle _ _ _))
end Go.Proofs.Ytimpdjlgfjehcaa
