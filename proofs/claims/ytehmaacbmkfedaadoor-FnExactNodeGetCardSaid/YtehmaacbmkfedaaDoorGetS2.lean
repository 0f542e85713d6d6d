/-
  spec.FieldsGet answers the record that a text is the text of; and an empty one and false where it is the text of none.
-/
import Derived.Test.YtehmaacbmkfedaaDoorGetS
namespace Go.Proofs.YtehmaacbmkfedaaDoor
open Go.RowKit
set_option linter.unusedVariables false

theorem str_other {x y : ByteArray} (h : x ≠ y) : (!x.toList == y.toList) = true := by
  rw [ByteArray.toList_eq, ByteArray.toList_eq]
  have : (x.data.toList == y.data.toList) = false := beq_eq_false_iff_ne.2 fun e => h (bytes_inj e)
  rw [this]
  rfl

theorem small2 {ss : List ByteArray} {s : ByteArray} (h : ∀ x ∈ ss, x.size ≤ 2048) (hs : s.size ≤ 2048) : ∀ x ∈ ss ++ [s], x.size ≤ 2048 := by
  intro x hx
  rcases List.mem_append.1 hx with h1 | h1
  · exact h x h1
  · rw [List.mem_singleton.1 h1]; exact hs
theorem mid_field (s : ByteArray) (ss : List ByteArray) (r : List UInt8) (f : ByteArray) (k : Nat) (r2 : List UInt8) (hsp : s.data.toList = recL ss ++ r) (h1 : (r.drop (k + 1)).take f.size = f.data.toList) (h2 : r.drop (k + 1 + f.size) = r2) :
    s.extract ((recL ss).length + k + 1) ((recL ss).length + k + 1 + f.size) = f := by
  apply bytes_inj
  rw [← ByteArray.toList_eq, Lib.extract_toList, hsp, show (recL ss).length + k + 1 + f.size - ((recL ss).length + k + 1) = f.size by omega,
    show (recL ss).length + k + 1 = (recL ss).length + (k + 1) by omega, ← List.drop_drop, List.drop_left]
  exact h1

set_option maxRecDepth 100000 in
set_option maxHeartbeats 400000 in
theorem spec_fget (s : ByteArray) (w : World) (hs : s.size ≤ 1048576) :
    Calls Tryd.prog 27 #[.string s] w (GetPost s w) := by
  have hlen : s.data.toList.length = s.size := by simp
  obtain ⟨i0, hi, hz0, hz1, hz2⟩ := info_parts Tryd.info9
  have o1 := World.ownsRow_made (e := 9) (base := w.heap.size) w (size := 1) #[] 0 (Nat.le_refl _) (by decide) rfl
  by_cases h2 : (2048 : Int) < (s.size : Int)
  · have HN := Lib.hid (not_rec_long (l := s.data.toList) (by omega))
    have hF := spec_fput (some ⟨w.heap.size, 0, none⟩) 0 [] (w.alloc (.cells #[] 9)) (by simp) (by simp) (fun h => by simp at h)
    have hF1 : Calls Tryd.prog 21 #[.slice (some ⟨w.heap.size, 0, none⟩) 0 0] (w.alloc (.cells #[] 9)) fun e w' => e = .returned (.tuple #[.string (strOf []), .bool true]) ∧ Below (w.alloc (.cells #[] 9)).heap.size (w.alloc (.cells #[] 9)) w' := hF.mono fun e w' ⟨h1, h2⟩ => ⟨h1, h2⟩
    have hq : (!(strOf []).toList == s.toList) = true := by
      apply str_other
      intro e
      have := congrArg ByteArray.size e
      rw [strOf_size, List.length_nil] at this
      omega
    have h0 : (0 : Int) < (s.size : Int) := by omega
    have h2' : decide ((s.size : Int) ≤ 2048) = false := by simp; omega
    clear hF o1 hlen
    go_enter Tryd.func27, Tryd.ntmps27
    go_wp2
    refine wp_loop_rounds 1 ?_
    rw [rounds_succ]
    go_wp2_with (go_at_call 21; refine hF1.mono ?_; rintro e w1 ⟨rfl, hb1⟩)
    go_ret2
    have B1 : Below w.heap.size w w1 := (bel_fresh w).trans (hb1.mono (by simp))
    exact ⟨B1.alloc B1.size _, .inr ⟨HN.out, _, _, rfl⟩⟩
  · go_enter Tryd.func27, Tryd.ntmps27
    go_wp2
    go_loopg [4, 5] s.size (fun gh b i wr => ∃ (ss : List ByteArray) (r : List UInt8) (g c A : Nat), gh = r.length ∧ i = .int .i64 A ∧ A = (recL ss).length ∧ b = .slice (some ⟨g, 0, none⟩) ss.length c ∧ s.data.toList = recL ss ++ r ∧ A + r.length = s.size ∧ ss.length ≤ A ∧ (∀ x ∈ ss, x.size ≤ 2048) ∧ wr.ownsRow w.heap.size 9 1 (.slice (some ⟨g, 0, none⟩) ss.length c) ss.length (strCellsOf ss) ∧ Below w.heap.size w wr)
    case atStart => exact ⟨[], s.data.toList, w.heap.size, 0, 0, hlen.symm, rfl, rfl, rfl, rfl, by omega, by simp, by simp, o1, bel_fresh w⟩
    case round =>
      clear o1
      obtain ⟨ss, r, g, c, A, hg, rfl, hA, rfl, hsp, hAS, hsA, hsm, ho, hb⟩ := hrel
      have HG := Lib.hid hg
      clear hg
      by_cases hr0 : r = []
      · subst hr0
        rw [List.append_nil] at hsp
        have hlt : ¬ (A : Int) < (s.size : Int) := by simp at hAS; omega
        have hF := spec_fput (some ⟨g, 0, none⟩) c ss wr (by omega) (fun x hx => by have := hsm x hx; omega) (StrsAt.of_own ho rfl)
        by_cases h60 : ss.length ≤ 60
        · have hfp := fput_yes (ss := ss) h60 (by rw [← hsp]; omega)
          rw [hfp, ← hsp] at hF
          have hF1 : Calls Tryd.prog 21 #[.slice (some ⟨g, 0, none⟩) ss.length c] wr fun e w' => e = .returned (.tuple #[.string s, .bool true]) ∧ Below wr.heap.size wr w' := hF.mono fun e w' ⟨h1, h2⟩ => ⟨h1, h2⟩
          have HS : Hid (isRec s.data.toList ss) := Lib.hid ⟨h60, by rw [← hsp]; omega, hsp⟩
          have hq : (!s.toList == s.toList) = false := by simp
          clear hsp hfp hAS hA hsm hF hlen
          go_wp2_with (go_at_call 21; refine hF1.mono ?_; rintro e w1 ⟨rfl, hb1⟩)
          go_ret2
          exact ⟨hb.trans (hb1.mono hb.size), .inl ⟨ss, g, c, HS.out, rfl, own_below ho hb1⟩⟩
        · have hfp := fput_many (ss := ss) h60
          rw [hfp] at hF
          have hF1 : Calls Tryd.prog 21 #[.slice (some ⟨g, 0, none⟩) ss.length c] wr fun e w' => e = .returned (.tuple #[.string (strOf []), .bool false]) ∧ Below wr.heap.size wr w' := hF.mono fun e w' ⟨h1, h2⟩ => ⟨h1, h2⟩
          have HN : Hid (∀ tt, ¬ isRec s.data.toList tt) := Lib.hid (by
            rintro tt ⟨h1, _, h3⟩
            rw [hsp] at h3
            rw [recL_inj h3] at h60
            exact h60 h1)
          clear hsp hfp hAS hA hsm hF hlen
          go_wp2_with (go_at_call 21; refine hF1.mono ?_; rintro e w1 ⟨rfl, hb1⟩)
          go_ret2
          exact ⟨(hb.trans (hb1.mono hb.size)).alloc (hb.trans (hb1.mono hb.size)).size _, .inr ⟨HN.out, _, _, rfl⟩⟩
      · have hrp : 0 < r.length := List.length_pos_iff.2 hr0
        have hlt : (A : Int) < (s.size : Int) := by omega
        have hex := ext_drop s A s.size rfl
        rw [show s.data.toList.drop A = r by rw [hA]; exact place_at s ss r hsp] at hex
        have hL := l1_num (strOf r) wr (by rw [strOf_size]; omega)
        rw [strOf_toList, ← hex] at hL
        have hex2 := fun (f : ByteArray) (k : Nat) (r2 : List UInt8) (h1 : (r.drop (k + 1)).take f.size = f.data.toList) (h2 : r.drop (k + 1 + f.size) = r2) => mid_field s ss r f k r2 hsp h1 h2
        have hge : ∀ k : Nat, (hk : A + k < s.size) → r[k]? = some s[A + k] := by
          intro k hk
          have h1 : s.data.toList[A + k]? = some s[A + k] := by
            rw [List.getElem?_eq_getElem (by simpa using hk)]
            rfl
          rw [← h1, hsp, hA, List.getElem?_append_right (by omega), Nat.add_sub_cancel_left]
        rcases l1_field r (by omega) with ⟨f, r2, k, hfr, hl1, k1, k9, hk58, hlen2, hmid, hend⟩ | ⟨hno, n, k, hl1, hn9, hk9, hkl, hbad⟩
        · rw [hl1] at hL
          have hb58 : A + k < s.size := by omega
          have hcol : s[A + k]'hb58 = 58 := by
            have := hge k hb58
            rw [hk58, Option.some.injEq] at this
            exact this.symm
          have hq1 : ((k : Int) == 0) = false := by rw [beq_eq_false_iff_ne]; omega
          have hq2 : ¬ (s.size : Int) ≤ (A : Int) + (k : Int) := by omega
          have hq3 : ¬ (s.size : Int) - (A : Int) - (k : Int) - 1 < (f.size : Int) := by omega
          have c1 : (0 : Int) ≤ (A : Int) + (k : Int) := by omega
          have c2 : (A : Int) + (k : Int) < (s.size : Int) := by omega
          have hmf := hex2 f k r2 hmid hend
          rw [← hA] at hmf
          have HS : Hid (s.data.toList = recL (ss ++ [f]) ++ r2) := Lib.hid (by rw [recL_more, List.append_assoc, ← hfr, hsp])
          have HA : Hid (A + k + 1 + f.size = (recL (ss ++ [f])).length) := Lib.hid (by
            have := congrArg List.length hfr
            rw [List.length_append] at this
            rw [recL_more, List.length_append, ← hA]
            omega)
          have HX := Lib.hid hlen2
          have HAS := Lib.hid hAS
          have hfs : f.size ≤ 2048 := by omega
          clear hex hex2 hge hfr hl1 hk58 hmid hend hsp hA hlen hlen2 hr0
          have s1 := hb.size
          have HH : Hid (A + k + 1 + f.size + r2.length = s.size) := Lib.hid (by have := HX.out; have := HAS.out; omega)
          go_wp2_with (first | (go_at_call 52; refine hL.mono ?_; rintro e w1 ⟨rfl, rfl⟩) | (at_builtin; refine wpList_append_own_at _ rfl _ _ 52 rfl w.heap.size 9 i0 (.string ⟨#[]⟩) 1 16 Tryd.underlying52 hi hz0 hz1 hz2 rfl (by decide) _ _ _ rfl (ho.alloc _) ⟨wr.heap.size, 0, none⟩ 1 1 [.string f] rfl rfl (cell_one_new _ _ _) (by simp [Value.oneCell']) (by unfold maxLen; omega) (by omega) (by simp; omega) ?_))
          intro v' w4 hown' hgrow _ hat
          have R := own_str hown'
          have B4 : Below w.heap.size w w4 := bel_row (hb.alloc hb.size _) (ho.alloc _) (Nat.le_refl _) hgrow
          obtain ⟨g4, c4, rfl⟩ := own_formt R (by simp)
          clear hown' hgrow hat ho hb hL
          go_wp2
          go_roundg r2.length
          case measure => have := HG.out; have := HX.out; omega
          case rel => exact ⟨ss ++ [f], r2, g4, c4, A + k + 1 + f.size, rfl, by go_num, HA.out, rfl, HS.out, HH.out, by simp; omega, small2 hsm hfs, R, B4⟩
        · have HN := Lib.hid (not_rec_bad hsp hr0 hno)
          have hrA : A + r.length = s.size := hAS
          rw [hl1] at hL
          have hne : k < r.length → ∃ h : A + k < s.size, r[k]? = some (s[A + k]'h) := fun h => ⟨by omega, hge k (by omega)⟩
          have c0 : (0 : Int) ≤ (A : Int) := by omega
          clear hex hex2 hge hl1 hsp hA hlen hr0 hno hAS
          by_cases hk0 : k = 0
          · subst hk0
            clear hne hbad
            go_wp2_with (go_at_call 52; refine hL.mono ?_; rintro e w1 ⟨rfl, rfl⟩)
            go_ret2
            exact ⟨hb.alloc hb.size _, .inr ⟨HN.out, _, _, rfl⟩⟩
          · have hq1 : ((k : Int) == 0) = false := by rw [beq_eq_false_iff_ne]; omega
            by_cases hkr : r.length ≤ k
            · have hq2 : (s.size : Int) ≤ (A : Int) + (k : Int) := by omega
              clear hne hbad
              go_wp2_with (go_at_call 52; refine hL.mono ?_; rintro e w1 ⟨rfl, rfl⟩)
              go_ret2
              exact ⟨hb.alloc hb.size _, .inr ⟨HN.out, _, _, rfl⟩⟩
            · obtain ⟨hbk, hrk⟩ := hne (by omega)
              have hq2 : ¬ (s.size : Int) ≤ (A : Int) + (k : Int) := by omega
              have c1 : (0 : Int) ≤ (A : Int) + (k : Int) := by omega
              have c2 : (A : Int) + (k : Int) < (s.size : Int) := by omega
              by_cases hcol : s[A + k]'hbk = 58
              · have hbig : (s.size : Int) - (A : Int) - (k : Int) - 1 < (n : Int) := by
                  rcases hbad with h | h | ⟨c, h, hc⟩ | h
                  · exact absurd h hk0
                  · omega
                  · rw [hrk, Option.some.injEq] at h
                    exact absurd (h.symm.trans hcol) hc
                  · omega
                clear hbad hrk
                go_wp2_with (go_at_call 52; refine hL.mono ?_; rintro e w1 ⟨rfl, rfl⟩)
                go_ret2
                exact ⟨hb.alloc hb.size _, .inr ⟨HN.out, _, _, rfl⟩⟩
              · have hcn : (((s[A + k]'hbk).toNat : Int) != 58) = true := by
                  rw [bne_iff_ne]
                  intro h
                  apply hcol
                  apply UInt8.toNat_inj.1
                  have h58 : (58 : UInt8).toNat = 58 := rfl
                  omega
                clear hbad hrk hcol
                go_wp2_with (go_at_call 52; refine hL.mono ?_; rintro e w1 ⟨rfl, rfl⟩)
                go_ret2
                exact ⟨hb.alloc hb.size _, .inr ⟨HN.out, _, _, rfl⟩⟩

end Go.Proofs.YtehmaacbmkfedaaDoor
