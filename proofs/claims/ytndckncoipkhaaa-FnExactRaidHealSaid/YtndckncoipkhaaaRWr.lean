/-
  RaidWrite, both ways.
-/
import Derived.Test.YtndckncoipkhaaaRWn
import Derived.Test.YtndckncoipkhaaaRFs
namespace Go.Proofs.Ytndckncoipkhaaa
open Go.RowKit

instance (R : List Dk) (n : Int) (cs : List ByteArray) (vs : List Bool) : Decidable (PutOk R n cs vs) := by unfold PutOk; infer_instance
def GoodW (R : List Dk) (n : Int) (t : ByteArray) : Prop := RsOk R ∧ Cut.inB n 8 63 = true ∧ Cut.blockB t = true ∧ PutOk R n (Cut.texts3 t.data.toList) [true, true, true]
instance (R : List Dk) (n : Int) (t : ByteArray) : Decidable (GoodW R n t) := by unfold GoodW; infer_instance
def writeR (R : List Dk) (n : Int) (t : ByteArray) : List Dk × Bool := if GoodW R n t then (putL R n (Cut.texts3 t.data.toList) [true, true, true], true) else ([], false)
theorem writeR_yes {R : List Dk} {n : Int} {t : ByteArray} (h : GoodW R n t) : writeR R n t = (putL R n (Cut.texts3 t.data.toList) [true, true, true], true) := if_pos h
theorem writeR_no {R : List Dk} {n : Int} {t : ByteArray} (h : ¬ GoodW R n t) : writeR R n t = ([], false) := if_neg h
theorem block_iff (t : ByteArray) : Cut.blockB t = true ↔ 1 ≤ t.size ∧ t.size ≤ 128 := by
  unfold Cut.blockB Cut.inB
  simp only [decide_eq_true_eq]
  omega
theorem row47 (n : Int) (w : World) : Calls Try.prog 47 #[.int .i64 n] w fun r w' => r = .returned (.bool (Cut.inB n 8 63)) ∧ w' = w := by
  have hI := Cut.in_any n 8 63 w
  obtain ⟨b, hb⟩ : ∃ b, b = Cut.inB n 8 63 := ⟨_, rfl⟩
  rw [← hb] at hI ⊢
  clear hb
  go_enter Try.func47, Try.ntmps47
  go_wp2_with (go_at_call 72; refine hI.mono ?_; rintro r w' ⟨rfl, rfl⟩)
  go_ret
  exact ⟨rfl, rfl⟩
theorem row52 (n : Int) (w : World) : Calls Try.prog 52 #[.int .i64 n] w fun r w' => r = .returned (.bool (Cut.inB n 8 63)) ∧ w' = w := by
  have hI := Cut.within_any n 8 63 w
  obtain ⟨b, hb⟩ : ∃ b, b = Cut.inB n 8 63 := ⟨_, rfl⟩
  rw [← hb] at hI ⊢
  clear hb
  go_enter Try.func52, Try.ntmps52
  go_wp2_with (go_at_call 74; refine hI.mono ?_; rintro r w' ⟨rfl, rfl⟩)
  go_ret
  exact ⟨rfl, rfl⟩

set_option maxRecDepth 100000 in
set_option maxHeartbeats 4000000 in
theorem impl_rwrite (A : Option Addr) (cap : Nat) (ps : List RD) (n : Int) (t : ByteArray) (w : World) (hn : ps.length ≤ 1048576) (hf : ∀ p ∈ ps, Bulk p.d) (hA : RAt w A ps) (ht : t.size ≤ maxLen) :
    Calls Try.prog 21 #[.agg #[.slice A ps.length cap], .int .i64 n, .string t] w (RPost2 (writeR (dks ps) n t).1 (writeR (dks ps) n t).2 w) := by
  have bl : Below w.heap.size w ((w.alloc (.cells #[.slice A ps.length cap] 24)).alloc (.cells #[.slice none 0 0] 24)) := bel_new (bel_new (Below.refl _ _) _) _
  have b0 := (B1.new w 24 (.slice A ps.length cap)).alloc (.cells #[.slice none 0 0] 24)
  have b1 := B1.new (w.alloc (.cells #[.slice A ps.length cap] 24)) 24 (.slice none 0 0)
  rw [World.size_alloc] at b1
  have hH := m_rok A cap ps _ hn hf (hA.below bl)
  have hRo := fun W => row52 n W
  have hBl := fun W => Cut.block_ok t W ht
  by_cases hok : RsOk (dks ps)
  · rw [okR_yes hok] at hH
    by_cases hrow : Cut.inB n 8 63 = true
    · simp only [hrow] at hRo
      by_cases hbl : Cut.blockB t = true
      · simp only [hbl] at hBl
        have hW := fun W (hW : Below w.heap.size w W) => impl_written A cap ps n t W hok hf (hA.below hW) ((block_iff t).1 hbl).2
        by_cases hput : PutOk (dks ps) n (Cut.texts3 t.data.toList) [true, true, true]
        · rw [writeR_yes ⟨hok, hrow, hbl, hput⟩]
          obtain ⟨X, hX⟩ : ∃ X, X = putL (dks ps) n (Cut.texts3 t.data.toList) [true, true, true] := ⟨_, rfl⟩
          have hW2 : ∀ W, Below w.heap.size w W → Calls Try.prog 54 #[.agg #[.slice A ps.length cap], .int .i64 n, .string t, .func (.func 55) #[] #[]] W fun r w' => ∃ (cur : List RD) (A : Option Addr) (c : Nat) (m : Int), r = .returned (.tuple #[.agg #[.slice A cur.length c], .int .i64 m, .bool true]) ∧ dks cur = X ∧ ROwn w' W.heap.size (.slice A cur.length c) cur ∧ Below W.heap.size W w' := fun W h => (hW W h).mono fun r w' hh => by
            rcases hh with ⟨_, cur, A, c, m, e, hd, h1, h2⟩ | ⟨h0, _⟩
            · exact ⟨cur, A, c, m, e, by rw [hd, hX], h1, h2⟩
            · exact absurd hput h0
          simp only [← hX]
          clear hf hA hok hrow hbl hput hW hX
          go_enter Try.func21, Try.ntmps21
          go_wp2_with (go_at_call 46; refine hH.mono ?_; rintro r w2 ⟨rfl, hb2⟩; refine Hid.out ?_)
          refine Lib.hid ?_
          have c0 := b0.below hb2
          have c1 := b1.below hb2
          have BB := bel_then bl hb2
          clear hH hb2 b0 b1 bl
          obtain ⟨x0, _⟩ := c0.cells
          go_wp2_with (go_at_call 52; refine (hRo _).mono ?_; rintro r w2' ⟨rfl, hww⟩; obtain rfl := hww.symm; refine Hid.out ?_)
          refine Lib.hid ?_
          go_wp2_with (go_at_call 53; refine (hBl _).mono ?_; rintro r w2' ⟨rfl, hww⟩; obtain rfl := hww.symm; refine Hid.out ?_)
          refine Lib.hid ?_
          have L := hW2 _ BB
          clear hRo hBl hW2
          go_wp2_with (go_at_call 54; refine L.mono ?_; rintro r w3 ⟨qs, A2, c2, m, rfl, hq, ho, hb3⟩; refine Hid.out ?_)
          refine Lib.hid ?_
          have c3 := c1.below hb3
          have B3 := bel_then BB hb3
          have hlt := c1.lt
          have bn := B1.new w3 24 (.slice A2 qs.length c2)
          have c4 := c3.alloc (.cells #[.slice A2 qs.length c2] 24)
          have B4 := bel_new B3 (.cells #[.slice A2 qs.length c2] 24)
          have o4 := ho.below (bel_new (Below.refl w3.heap.size w3) (.cells #[.slice A2 qs.length c2] 24))
          have sz := BB.size
          obtain ⟨y0, f0⟩ := c4.cells
          clear x0 c0 L hb3 c1 c3 BB B3
          go_wp2_with fail
          exact bodyPost_ret (v := .tuple #[.agg #[.slice A2 qs.length c2], .bool true]) (by simp [results, Try.f21, go_sem, y0]) rfl ⟨qs, A2, c2, rfl, hq, (o4.set (p := ⟨w.heap.size + 1, 0, none⟩) hlt _).base sz, B4.setCell (p := ⟨w.heap.size + 1, 0, none⟩) (Nat.le_succ _) _⟩
        · rw [writeR_no (fun h => hput h.2.2.2)]
          have hW2 : ∀ W, Below w.heap.size w W → Calls Try.prog 54 #[.agg #[.slice A ps.length cap], .int .i64 n, .string t, .func (.func 55) #[] #[]] W fun r w' => r = .returned (.tuple #[.agg #[.slice none 0 0], .int .i64 0, .bool false]) ∧ Below W.heap.size W w' := fun W h => (hW W h).mono fun r w' hh => by
            rcases hh with ⟨h0, _⟩ | ⟨_, e, hb⟩
            · exact absurd h0 hput
            · exact ⟨e, hb⟩
          clear hf hA hok hrow hbl hput hW
          go_enter Try.func21, Try.ntmps21
          go_wp2_with (go_at_call 46; refine hH.mono ?_; rintro r w2 ⟨rfl, hb2⟩; refine Hid.out ?_)
          refine Lib.hid ?_
          have c0 := b0.below hb2
          have c1 := b1.below hb2
          have BB := bel_then bl hb2
          clear hH hb2 b0 b1 bl
          obtain ⟨x0, _⟩ := c0.cells
          go_wp2_with (go_at_call 52; refine (hRo _).mono ?_; rintro r w2' ⟨rfl, hww⟩; obtain rfl := hww.symm; refine Hid.out ?_)
          refine Lib.hid ?_
          go_wp2_with (go_at_call 53; refine (hBl _).mono ?_; rintro r w2' ⟨rfl, hww⟩; obtain rfl := hww.symm; refine Hid.out ?_)
          refine Lib.hid ?_
          have L := hW2 _ BB
          clear hRo hBl hW2
          go_wp2_with (go_at_call 54; refine L.mono ?_; rintro r w3 ⟨rfl, hb3⟩; refine Hid.out ?_)
          refine Lib.hid ?_
          have c4 := (c1.below hb3).alloc (.cells #[.slice none 0 0] 24)
          have B4 := bel_new (bel_then BB hb3) (.cells #[.slice none 0 0] 24)
          obtain ⟨y0, f0⟩ := c4.cells
          clear x0 c0 L hb3 c1 BB
          go_wp2_with fail
          exact bodyPost_ret (v := .tuple #[.agg #[.slice none 0 0], .bool false]) (by simp [results, Try.f21, go_sem, y0]) rfl ⟨[], none, 0, rfl, rfl, ROwn.none _ _, B4.setCell (p := ⟨w.heap.size + 1, 0, none⟩) (Nat.le_succ _) _⟩
      · have hbf : Cut.blockB t = false := by simpa using hbl
        rw [writeR_no (fun h => hbl h.2.2.1)]
        simp only [hbf] at hBl
        clear hf hA hok hrow hbl hbf
        go_enter Try.func21, Try.ntmps21
        go_wp2_with (go_at_call 46; refine hH.mono ?_; rintro r w2 ⟨rfl, hb2⟩; refine Hid.out ?_)
        refine Lib.hid ?_
        have c1 := b1.below hb2
        have BB := bel_then bl hb2
        clear hH hb2 b0 b1 bl
        obtain ⟨y0, f0⟩ := c1.cells
        go_wp2_with (go_at_call 52; refine (hRo _).mono ?_; rintro r w2' ⟨rfl, hww⟩; obtain rfl := hww.symm; refine Hid.out ?_)
        refine Lib.hid ?_
        go_wp2_with (go_at_call 53; refine (hBl _).mono ?_; rintro r w2' ⟨rfl, hww⟩; obtain rfl := hww.symm)
        exact bodyPost_ret (v := .tuple #[.agg #[.slice none 0 0], .bool false]) (by simp [results, Try.f21, go_sem, y0]) rfl ⟨[], none, 0, rfl, rfl, ROwn.none _ _, BB.setCell (p := ⟨w.heap.size + 1, 0, none⟩) (Nat.le_succ _) _⟩
    · have hrf : Cut.inB n 8 63 = false := by simpa using hrow
      rw [writeR_no (fun h => hrow h.2.1)]
      simp only [hrf] at hRo
      clear hf hA hok hrow hrf hBl
      go_enter Try.func21, Try.ntmps21
      go_wp2_with (go_at_call 46; refine hH.mono ?_; rintro r w2 ⟨rfl, hb2⟩; refine Hid.out ?_)
      refine Lib.hid ?_
      have c1 := b1.below hb2
      have BB := bel_then bl hb2
      clear hH hb2 b0 b1 bl
      obtain ⟨y0, f0⟩ := c1.cells
      go_wp2_with (go_at_call 52; refine (hRo _).mono ?_; rintro r w2' ⟨rfl, hww⟩; obtain rfl := hww.symm)
      exact bodyPost_ret (v := .tuple #[.agg #[.slice none 0 0], .bool false]) (by simp [results, Try.f21, go_sem, y0]) rfl ⟨[], none, 0, rfl, rfl, ROwn.none _ _, BB.setCell (p := ⟨w.heap.size + 1, 0, none⟩) (Nat.le_succ _) _⟩
  · rw [okR_no hok] at hH
    rw [writeR_no (fun h => hok h.1)]
    clear hok hf hA hRo hBl
    go_enter Try.func21, Try.ntmps21
    go_wp2_with (go_at_call 46; refine hH.mono ?_; rintro r w2 ⟨rfl, hb2⟩; obtain ⟨y0, f0⟩ := (b1.below hb2).cells)
    exact bodyPost_ret (v := .tuple #[.agg #[.slice none 0 0], .bool false]) (by simp [results, Try.f21, go_sem, y0]) rfl ⟨[], none, 0, rfl, rfl, ROwn.none _ _, (bel_then bl hb2).setCell (p := ⟨w.heap.size + 1, 0, none⟩) (Nat.le_succ _) _⟩
end Go.Proofs.Ytndckncoipkhaaa
