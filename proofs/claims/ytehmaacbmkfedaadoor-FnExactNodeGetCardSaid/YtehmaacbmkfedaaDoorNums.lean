/-
  numsGet, the program's: the numbers of several texts, or that one of them is none.
-/
import Derived.Test.YtehmaacbmkfedaaDoorParts0
namespace Go.Proofs.YtehmaacbmkfedaaDoor
open Go.RowKit

def NumsPost (ps : List ByteArray) (w : World) (e : Ending) (w' : World) : Prop :=
  Below w.heap.size w w' ∧
  (((∀ k (hk : k < ps.length), isNum ps[k] = true) ∧ ∃ g c : Nat, e = .returned (.tuple #[.slice (some ⟨g, 0, none⟩) ps.length c, .bool true]) ∧ w'.ownsRow w.heap.size 3 1 (.slice (some ⟨g, 0, none⟩) ps.length c) ps.length (intCells ps)) ∨
   ((¬ ∀ k (hk : k < ps.length), isNum ps[k] = true) ∧ e = .returned (.tuple #[.slice none 0 0, .bool false])))

set_option maxRecDepth 100000 in
set_option maxHeartbeats 2000000 in
theorem impl_nums (A : Option Addr) (cap : Nat) (ps : List ByteArray) (w : World) (hn : ps.length ≤ 100) (hsz : ∀ p ∈ ps, p.size ≤ 1048576) (hA : StrsAt w A ps) (hE : Env w) :
    Calls Tryd.prog 56 #[.slice A ps.length cap] w (NumsPost ps w) := by
  obtain ⟨i0, hi, hz0, hz1, hz2⟩ := info_parts Tryd.info3
  have o1 := World.ownsRow_made (e := 3) (base := w.heap.size) w (size := 1) #[] 0 (Nat.le_refl _) (by decide) rfl
  go_enter Tryd.func56, Tryd.ntmps56
  go_wp2_with fail
  go_loopg [4, 12] ps.length (fun gh v i wr => ∃ (j g2 c2 : Nat), gh = ps.length - j ∧ j ≤ ps.length ∧ i = .int .i64 j ∧ v = .slice (some ⟨g2, 0, none⟩) j c2 ∧ (∀ k (hk : k < ps.length), k < j → isNum ps[k] = true) ∧ wr.ownsRow w.heap.size 3 1 (.slice (some ⟨g2, 0, none⟩) j c2) j (intCells (ps.take j)) ∧ Below w.heap.size w wr)
  case atStart => exact ⟨0, w.heap.size, 0, by omega, by omega, rfl, rfl, by omega, o1, bel_fresh w⟩
  case round =>
    clear o1
    obtain ⟨j, g2, c2, hg, hj, rfl, rfl, hnum, ho, hb⟩ := hrel
    have HG := Lib.hid hg
    clear hg
    have s1 := hb.size
    by_cases hlt : j < ps.length
    · obtain ⟨b9, off9, rfl, hlb, hc9⟩ := (hA.below hb) (by omega)
      have hck := hc9 j hlt
      have hpj := hsz ps[j] (List.getElem_mem _)
      by_cases hn1 : isNum ps[j] = true
      · have hN1 := inum_yes ps[j] wr hpj (hE.at hb) hn1
        have HN : Hid (∀ k (hk : k < ps.length), k < j + 1 → isNum ps[k] = true) := Lib.hid (fun k hk hkj => by
          by_cases e : k = j
          · subst e; exact hn1
          · exact hnum k hk (by omega))
        obtain ⟨p, hp⟩ : ∃ p, p = ps[j] := ⟨_, rfl⟩
        rw [← hp] at hN1 hck
        have HP := Lib.hid hp
        clear hpj hn1 hnum hp hc9 hsz
        go_wp2_with (first | (go_at_call 79; refine hN1.mono ?_; rintro e w2 ⟨rfl, hb2⟩; have ho2 := own_below ho hb2; have hbb := bel_then hb hb2; have s2 := hbb.size) | (at_builtin; refine wpList_append_own_at _ rfl _ _ 81 rfl w.heap.size 3 i0 (.int .i64 0) 1 8 Tryd.underlying81 hi hz0 hz1 hz2 rfl (by decide) _ _ _ rfl (ho2.alloc _) ⟨w2.heap.size, 0, none⟩ 1 1 [.int .i64 (numV p)] rfl rfl (cell_one_new _ _ _) (by simp [Value.oneCell']) (by unfold maxLen; omega) (by omega) (by simp; omega) ?_))
        intro v' w4 hown' hgrow _ hat
        have R := own_next_int hlt HP.out hown'
        have B4 : Below w.heap.size w w4 := bel_row (hbb.alloc hbb.size _) (ho2.alloc _) (Nat.le_refl _) hgrow
        obtain ⟨g4, c4, rfl⟩ := own_formt R (by omega)
        clear hown' hgrow hat ho hb ho2 hbb hN1
        go_wp2
        go_roundg (ps.length - (j + 1))
        case measure => have := HG.out; omega
        case rel => exact ⟨j + 1, g4, c4, rfl, by omega, by go_num, rfl, HN.out, R, B4⟩
      · have hN1 := inum_no ps[j] wr hpj (hE.at hb) hn1
        have HV : Hid (¬ ∀ k (hk : k < ps.length), isNum ps[k] = true) := Lib.hid (fun h => hn1 (h j hlt))
        obtain ⟨p, hp⟩ : ∃ p, p = ps[j] := ⟨_, rfl⟩
        rw [← hp] at hN1 hck
        clear hpj hn1 hnum hp hc9 hsz
        go_wp2_with (go_at_call 79; refine hN1.mono ?_; rintro e w2 ⟨rfl, hb2⟩)
        go_ret2
        exact ⟨bel_then hb hb2, .inr ⟨HV.out, rfl⟩⟩
    · obtain rfl : j = ps.length := by omega
      rw [List.take_length] at ho
      have HV : Hid (∀ k (hk : k < ps.length), isNum ps[k] = true) := Lib.hid (fun k hk => hnum k hk hk)
      clear hnum hsz
      go_wp2_with fail
      go_ret2
      exact ⟨hb, .inl ⟨HV.out, _, _, rfl, ho⟩⟩
end Go.Proofs.YtehmaacbmkfedaaDoor
