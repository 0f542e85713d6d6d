/-
  impl.FieldsGet answers the record that a text is the text of; and nil and false where it is the text of none.
-/
import Derived.Test.YtehmaacbmkfedaaDoorCutF
namespace Go.Proofs.YtehmaacbmkfedaaDoor
open Go.RowKit

def isRec (l : List UInt8) (ss : List ByteArray) : Prop := ss.length ≤ 60 ∧ (recL ss).length ≤ 2048 ∧ l = recL ss

def GetPost (s : ByteArray) (w : World) (e : Ending) (w' : World) : Prop :=
  Below w.heap.size w w' ∧
  ((∃ (ss : List ByteArray) (g c : Nat), isRec s.data.toList ss ∧ e = .returned (.tuple #[.slice (some ⟨g, 0, none⟩) ss.length c, .bool true]) ∧ w'.ownsRow w.heap.size 9 1 (.slice (some ⟨g, 0, none⟩) ss.length c) ss.length (strCellsOf ss)) ∨
   ((∀ ss, ¬ isRec s.data.toList ss) ∧ ∃ A c, e = .returned (.tuple #[.slice A 0 c, .bool false])))

theorem not_rec_long {l : List UInt8} (h : 2048 < l.length) (ss : List ByteArray) : ¬ isRec l ss := fun ⟨_, h2, h3⟩ => by rw [h3] at h; omega
theorem not_rec_bad {l r : List UInt8} {ss : List ByteArray} (hl : l = recL ss ++ r) (hr : r ≠ []) (hb : ∀ f x, r ≠ encF f ++ x) (tt : List ByteArray) : ¬ isRec l tt := by
  rintro ⟨_, _, h3⟩
  rw [hl] at h3
  obtain ⟨uu, h4, h5⟩ := recL_front ss tt r h3.symm
  cases uu with
  | nil => exact hr h5
  | cons f uu => exact hb f (recL uu) h5
theorem not_rec_many {l r : List UInt8} {ss : List ByteArray} (hl : l = recL ss ++ r) (hr : r ≠ []) (h60 : 60 ≤ ss.length) (tt : List ByteArray) : ¬ isRec l tt := by
  rintro ⟨h1, _, h3⟩
  rw [hl] at h3
  obtain ⟨uu, h4, h5⟩ := recL_front ss tt r h3.symm
  cases uu with
  | nil => exact hr h5
  | cons f uu => rw [h4, List.length_append, List.length_cons] at h1; omega
theorem recL_more (ss : List ByteArray) (f : ByteArray) : recL (ss ++ [f]) = recL ss ++ encF f := by
  unfold recL
  rw [List.flatMap_append]
  simp

set_option maxRecDepth 100000 in
set_option maxHeartbeats 1000000 in
theorem impl_fget (s : ByteArray) (w : World) (hs : s.size ≤ 1048576) (hT : Tab w) (hE : Errs w) (hM : MaxL w) :
    Calls Tryd.prog 54 #[.string s] w (GetPost s w) := by
  have hlen : s.data.toList.length = s.size := by simp
  by_cases h2 : (2048 : Int) < (s.size : Int)
  · have HN := Lib.hid (not_rec_long (l := s.data.toList) (by omega))
    clear hT hE hM hlen
    go_enter Tryd.func54, Tryd.ntmps54
    go_wp2
    go_ret2
    exact ⟨Below.refl _ _, .inr ⟨HN.out, _, _, rfl⟩⟩
  · obtain ⟨i0, hi, hz0, hz1, hz2⟩ := info_parts Tryd.info9
    have o1 := World.ownsRow_made (e := 9) (base := w.heap.size) w (size := 1) #[] 0 (Nat.le_refl _) (by decide) rfl
    have hcut := fun (r : List UInt8) (h : r.length ≤ 2048) (W : World) (hb : Below w.heap.size w W) => cut_any (strOf r) W (by rw [strOf_size]; omega) (Tab.at hT hb) (hE.below hb) (hM.below hb)
    clear hT hE hM
    go_enter Tryd.func54, Tryd.ntmps54
    go_wp2
    go_loopg [0, 4] s.size (fun gh a b wr => ∃ (ss : List ByteArray) (r : List UInt8) (g c : Nat), gh = r.length ∧ a = .string (strOf r) ∧ b = .slice (some ⟨g, 0, none⟩) ss.length c ∧ ss.length ≤ 60 ∧ s.data.toList = recL ss ++ r ∧ wr.ownsRow w.heap.size 9 1 (.slice (some ⟨g, 0, none⟩) ss.length c) ss.length (strCellsOf ss) ∧ Below w.heap.size w wr)
    case atStart => exact ⟨[], s.data.toList, w.heap.size, 0, hlen.symm, by rw [show strOf s.data.toList = s from rfl], rfl, by simp, rfl, o1, bel_fresh w⟩
    case round =>
      clear o1
      obtain ⟨ss, r, g, c, hg, rfl, rfl, h60, hsp, ho, hb⟩ := hrel
      have HG := Lib.hid hg
      clear hg
      have hsl := congrArg List.length hsp
      rw [List.length_append, hlen] at hsl
      by_cases hr0 : r = []
      · subst hr0
        rw [List.append_nil] at hsp
        have HS : Hid (isRec s.data.toList ss) := Lib.hid ⟨h60, by rw [List.length_nil] at hsl; omega, hsp⟩
        have hq : (!(strOf ([] : List UInt8)).toList.isEmpty) = false := by rw [ByteArray.toList_eq, strOf_toList]; rfl
        clear hsp hsl hcut
        go_wp2_with fail
        go_ret2
        exact ⟨hb, .inl ⟨ss, g, c, HS.out, rfl, ho⟩⟩
      · have hrp : 0 < r.length := List.length_pos_iff.2 hr0
        have hq : (!(strOf r).toList.isEmpty) = true := by
          rw [ByteArray.toList_eq, strOf_toList]
          cases r with
          | nil => exact absurd rfl hr0
          | cons x y => rfl
        have hC := hcut r (by omega) wr hb
        clear hcut
        by_cases hx : ∃ f x, r = encF f ++ x
        · obtain ⟨f, x, hfx⟩ := hx
          have hC1 : Calls Tryd.prog 77 #[.string (strOf r)] wr fun e w' => e = .returned (.tuple #[.string f, .string (strOf x), .bool true]) ∧ Below wr.heap.size wr w' := hC.mono fun e w' ⟨hb, hc⟩ => by
            rcases hc with ⟨f2, x2, h2, he⟩ | ⟨hno, _⟩
            · rw [strOf_toList, hfx] at h2
              obtain ⟨e1, e2⟩ := encF_app h2
              exact ⟨by rw [he, e1, e2], hb⟩
            · exact absurd (by rw [strOf_toList]; exact hfx) (hno f x)
          have hxl := congrArg List.length hfx
          rw [List.length_append, encF_len] at hxl
          clear hC
          by_cases h6 : ss.length = 60
          · have HN := Lib.hid (not_rec_many hsp hr0 (by omega))
            have hc6 : ((ss.length : Int) == 60) = true := by rw [h6]; rfl
            clear hsp hfx hxl hsl
            go_wp2_with (go_at_call 77; refine hC1.mono ?_; rintro e w1 ⟨rfl, hb1⟩)
            go_ret2
            exact ⟨hb.trans (hb1.mono hb.size), .inr ⟨HN.out, _, _, rfl⟩⟩
          · have hc6 : ((ss.length : Int) == 60) = false := by rw [beq_eq_false_iff_ne]; omega
            have HS : Hid (s.data.toList = recL (ss ++ [f]) ++ x) := Lib.hid (by rw [recL_more, List.append_assoc, ← hfx, hsp])
            have HX := Lib.hid hxl
            clear hsp hfx hxl hsl
            go_wp2_with (go_at_call 77; refine hC1.mono ?_; rintro e w1 ⟨rfl, hb1⟩; refine Hid.out ?_)
            refine Lib.hid ?_
            have o1 := own_below ho hb1
            have b1 : Below w.heap.size w w1 := hb.trans (hb1.mono hb.size)
            have s1 := b1.size
            clear ho hb hb1 hC1
            go_wp2_with (at_builtin; refine wpList_append_own_at _ rfl _ _ 52 rfl w.heap.size 9 i0 (.string ⟨#[]⟩) 1 16 Tryd.underlying52 hi hz0 hz1 hz2 rfl (by decide) _ _ _ rfl (o1.alloc _) ⟨w1.heap.size, 0, none⟩ 1 1 [.string f] rfl rfl (cell_one_new _ _ _) (by simp [Value.oneCell']) (by unfold maxLen; omega) (by omega) (by simp; omega) ?_)
            intro v' w4 hown' hgrow _ hat
            have R := own_str hown'
            have B4 : Below w.heap.size w w4 := bel_row (b1.alloc b1.size _) (o1.alloc _) (Nat.le_refl _) hgrow
            obtain ⟨g4, c4, rfl⟩ := own_formt R (by simp)
            clear hown' hgrow hat o1
            go_wp2
            go_roundg x.length
            case measure => have := HG.out; have := HX.out; omega
            case rel => exact ⟨ss ++ [f], x, g4, c4, rfl, rfl, rfl, by simp; omega, HS.out, R, B4⟩
        · have HN := Lib.hid (not_rec_bad hsp hr0 (fun f x e => hx ⟨f, x, e⟩))
          have hC1 : Calls Tryd.prog 77 #[.string (strOf r)] wr fun e w' => e = .returned (.tuple #[.string ⟨#[]⟩, .string ⟨#[]⟩, .bool false]) ∧ Below wr.heap.size wr w' := hC.mono fun e w' ⟨hb, hc⟩ => by
            rcases hc with ⟨f2, x2, h2, he⟩ | ⟨hno, he⟩
            · exact absurd ⟨f2, x2, by rw [strOf_toList] at h2; exact h2⟩ hx
            · exact ⟨he, hb⟩
          clear hC hx hsp hsl
          go_wp2_with (go_at_call 77; refine hC1.mono ?_; rintro e w1 ⟨rfl, hb1⟩)
          go_ret2
          exact ⟨hb.trans (hb1.mono hb.size), .inr ⟨HN.out, _, _, rfl⟩⟩

end Go.Proofs.YtehmaacbmkfedaaDoor
