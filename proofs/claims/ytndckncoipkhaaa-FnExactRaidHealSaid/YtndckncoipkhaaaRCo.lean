/-
  l4Cols: what the disks have in a row.
-/
import Derived.Test.YtndckncoipkhaaaRMa
import Derived.Test.YtndckncoipkhaaaKW
import Derived.Test.YtndckncoipkhaaaCtFitsE
namespace Go.Proofs.Ytndckncoipkhaaa
open Go.RowKit

/-- What a disk has of a row, as the reference reads it. -/
def ColD (d : Dk) (n : Int) (y : ByteArray) : Prop := Cut.Col (latest d n) (!d.gone) y
theorem lies_str1 (W : World) (t : ByteArray) : Lies (W.alloc (.cells #[.string t] 9)) (some ⟨W.heap.size, 0, none⟩) (strCells [t]) := fun _ => by
  refine ⟨W.heap.size, 0, rfl, by simp, fun j v hj => ?_⟩
  rw [Nat.zero_add, World.cell?_alloc_mark]
  rcases j with _ | j
  · exact hj
  · simp [strCells] at hj
theorem strCells_snoc (ys : List ByteArray) (t : ByteArray) : strCells (ys ++ [t]) = strCells ys ++ strCells [t] := by simp [strCells]
theorem strCells_one' (ys : List ByteArray) : ∀ u ∈ strCells ys, u.oneCell' = true := fun u hu => by
  obtain ⟨x, _, rfl⟩ := List.mem_map.1 hu
  rfl
theorem Try.info9q : (Try.prog.info? 9).map (fun i => (i.zero, i.size, i.bytes)) = some (some (.string ⟨#[]⟩), 1, 16) := by kernel_rfl
def ColsTo (ps : List RD) (n : Int) (ys : List ByteArray) : Prop := ∀ j (h : j < ps.length) (h2 : j < ys.length), ColD ps[j].d n ys[j]
theorem ColsTo.snoc {ps : List RD} {n : Int} {ys : List ByteArray} {t : ByteArray} (h : ColsTo ps n ys) (hk : ys.length < ps.length) (ht : ColD ps[ys.length].d n t) : ColsTo ps n (ys ++ [t]) := fun j hj hj2 => by
  by_cases e : j < ys.length
  · rw [List.getElem_append_left e]
    exact h j hj e
  · have e2 : j = ys.length := by simp at hj2; omega
    subst e2
    simpa using ht
set_option maxRecDepth 100000 in
set_option maxHeartbeats 4000000 in
theorem spec_cols (A : Option Addr) (cap : Nat) (ps : List RD) (n : Int) (w : World) (hok : RsOk (dks ps)) (hf : ∀ p ∈ ps, Bulk p.d) (hA : RAt w A ps) (hn : 0 ≤ n ∧ n ≤ 63) :
    Calls Try.prog 94 #[.agg #[.slice A ps.length cap], .int .i64 n] w fun r w' => ∃ (ys : List ByteArray) (C : Option Addr) (cc : Nat), r = .returned (.slice C ys.length cc) ∧ ys.length = ps.length ∧ (∀ j (h : j < ps.length) (h2 : j < ys.length), ColD ps[j].d n ys[j]) ∧ w'.ownsRow w.heap.size 9 1 (.slice C ys.length cc) ys.length (strCells ys) ∧ Below w.heap.size w w' := by
  have bl : Below w.heap.size w (w.alloc (.cells #[.slice A ps.length cap] 24)) := bel_new (Below.refl _ _) _
  have b0 := B1.new w 24 (.slice A ps.length cap)
  obtain ⟨i0, hi, hz0, hz1, hz2⟩ := info_parts Try.info9q
  have h3 : Hid (ps.length = 3) := Lib.hid (by have := hok.1; rwa [dks_len] at this)
  have HOK := Lib.hid hok.2
  have hMx := fun W => Cut.many_x W
  have o0 := World.ownsRow_made (e := 9) (base := w.heap.size + 1) (w.alloc (.cells #[.slice A ps.length cap] 24)) (size := 1) #[] 0 (by simp) (by decide) rfl
  have c0 := b0.alloc (.cells #[] 9)
  have bl2 := bel_new bl (.cells #[] 9)
  rw [World.size_alloc] at o0
  clear hok b0 bl
  go_enter Try.func94, Try.ntmps94
  go_wp2_with fail
  go_loopw [5, 6] (fun out i wr => ∃ (k : Nat) (ys : List ByteArray) (C : Option Addr) (cc : Nat), k ≤ ps.length ∧ i = .int .i64 k ∧ out = .slice C ys.length cc ∧ ys.length = k ∧ ColsTo ps n ys ∧ wr.ownsRow (w.heap.size + 1) 9 1 (.slice C ys.length cc) ys.length (strCells ys) ∧ B1 wr w.heap.size 24 (.slice A ps.length cap) ∧ Below w.heap.size w wr) (fun _ i _ => ps.length - (intOf i).toNat)
  case atStart => exact ⟨0, [], some ⟨w.heap.size + 1, 0, none⟩, 0, Nat.zero_le _, rfl, rfl, rfl, fun j h h2 => absurd h2 (by simp), o0, c0, bl2⟩
  case round =>
    clear o0 c0 bl2
    obtain ⟨k, ys, C, cc, hk, rfl, rfl, hyl, hcols, ho, b0, BB⟩ := hrel
    have HYL := Lib.hid hyl
    have HCO := Lib.hid hcols
    clear hyl hcols
    obtain ⟨x0, _⟩ := b0.cells
    have hxl := b0.lt
    by_cases hlt : k < ps.length
    · obtain ⟨bb, off, rfl, hlb, z0, z1, z2, hd⟩ := (hA.below BB).cell k hlt
      have hfp := hf ps[k] (List.getElem_mem hlt)
      have hok := HOK.out ps[k].d (List.mem_map.2 ⟨ps[k], List.getElem_mem hlt, rfl⟩)
      have hL := fun W (hW : Below wr.heap.size wr W) => spec_latest ps[k].a ps[k].b ps[k].c ps[k].e ps[k].d n W hfp (hd.below hW) hok.1 hn
      have hcl : ∀ t, ColD ps[k].d n t → ColsTo ps n (ys ++ [t]) := fun t ht => HCO.out.snoc (by rw [HYL.out]; exact hlt) (by simp only [HYL.out]; exact ht)
      obtain ⟨P, hP⟩ : ∃ P, P = ps[k] := ⟨_, rfl⟩
      rw [← hP] at z0 z1 z2 hcl
      simp only [← hP] at hL
      obtain ⟨gone, hgo⟩ : ∃ gone, gone = P.d.gone := ⟨_, rfl⟩
      unfold ColD at hcl
      rw [← hgo] at z2 hcl
      simp only [← hgo] at hL
      have HCL := Lib.hid hcl
      have hki : (k : Int) < (ps.length : Int) := by omega
      have hkn : ys.length ≤ 1048576 := by have := HYL.out; have := h3.out; omega
      have hkm : (k : Int) ≤ 1048576 := by have := h3.out; omega
      clear hcl hgo hP hok hfp hd
      cases gone
      · have hsw := BB.size
        have hL2 := hL wr (Below.refl _ _)
        obtain ⟨t, ht⟩ : ∃ t, t = latest P.d n := ⟨_, rfl⟩
        rw [← ht] at hL2
        have HT := Lib.hid ht
        clear hL ht
        go_wp2_with (go_at_call 121; refine hL2.mono ?_; rintro r w4 ⟨rfl, hb4⟩; refine Hid.out ?_)
        refine Lib.hid ?_
        have hsw4 := hb4.size
        have h2b := (own_bel ho hb4).alloc (.cells #[.string t] 9)
        have b7 := (b0.below hb4).alloc (.cells #[.string t] 9)
        have B7 := bel_new (bel_then BB hb4) (.cells #[.string t] 9)
        clear x0 z0 z1 z2 hL2 hb4
        go_wp2_with (at_builtin; refine wpList_append_lies2 _ rfl _ _ 57 rfl (w.heap.size + 1) 9 i0 (.string ⟨#[]⟩) 1 16 Try.underlying57 hi hz0 hz1 hz2 rfl (by decide) _ _ _ rfl h2b (some ⟨w4.heap.size, 0, none⟩) 1 1 (strCells [t]) rfl rfl (lies_str1 _ _) (strCells_one' _) (by unfold maxLen; omega) (by omega) (by simp; omega) ?_; intro v5 w5 o5 g5; refine Hid.out ?_)
        refine Lib.hid ?_
        have g5 : (w4.alloc (.cells #[.string t] 9)).grownBy w5 (Value.slice C ys.length cc).ownBlock := g5
        rw [← strCells_snoc, show ys.length + 1 = (ys ++ [t]).length by simp] at o5
        obtain ⟨C5, c5, rfl, _⟩ := own_lies o5
        have ne0 : some w.heap.size ≠ (Value.slice C ys.length cc).ownBlock := fun e => by have := (h2b.lt _ e.symm).1; omega
        have c6 : B1 w5 w.heap.size 24 _ := (g5.block w.heap.size (b7.lt) ne0).trans b7
        have B6 := B7.grown g5 (by simp; omega) (fun b e => by have := (h2b.lt b e).1; omega)
        have HS := Lib.hid (HCL.out t ⟨fun _ => HT.out, fun h => (by cases h)⟩)
        have HO5 := Lib.hid o5
        clear o5 g5 h2b
        go_wp2_with fail
        go_roundw
        case rel => exact ⟨k + 1, ys ++ [t], C5, c5, by omega, by go_num, by simp, by simp [HYL.out], HS.out, HO5.out, c6, B6⟩
        case measure => simp [intOf]; omega
      · have hsw := BB.size
        go_wp2_with (go_at_call 120; refine (hMx _).mono ?_; rintro r w' ⟨⟨t, rfl, ht⟩, hww⟩; obtain rfl := hww.symm; refine Hid.out ?_)
        refine Lib.hid ?_
        have h2b := ho.alloc (.cells #[.string t] 9)
        have b7 := b0.alloc (.cells #[.string t] 9)
        have B7 := bel_new BB (.cells #[.string t] 9)
        go_wp2_with (at_builtin; refine wpList_append_lies2 _ rfl _ _ 57 rfl (w.heap.size + 1) 9 i0 (.string ⟨#[]⟩) 1 16 Try.underlying57 hi hz0 hz1 hz2 rfl (by decide) _ _ _ rfl h2b (some ⟨wr.heap.size, 0, none⟩) 1 1 (strCells [t]) rfl rfl (lies_str1 _ _) (strCells_one' _) (by unfold maxLen; omega) (by omega) (by simp; omega) ?_; intro v5 w5 o5 g5; refine Hid.out ?_)
        refine Lib.hid ?_
        have g5 : (wr.alloc (.cells #[.string t] 9)).grownBy w5 (Value.slice C ys.length cc).ownBlock := g5
        rw [← strCells_snoc, show ys.length + 1 = (ys ++ [t]).length by simp] at o5
        obtain ⟨C5, c5, rfl, _⟩ := own_lies o5
        have ne0 : some w.heap.size ≠ (Value.slice C ys.length cc).ownBlock := fun e => by have := (h2b.lt _ e.symm).1; omega
        have c6 : B1 w5 w.heap.size 24 _ := (g5.block w.heap.size (b7.lt) ne0).trans b7
        have B6 := B7.grown g5 (by simp; omega) (fun b e => by have := (h2b.lt b e).1; omega)
        have HS := Lib.hid (HCL.out t ⟨fun h => (by cases h), fun _ => ht⟩)
        have HO5 := Lib.hid o5
        clear o5 g5 h2b
        go_wp2_with fail
        go_roundw
        case rel => exact ⟨k + 1, ys ++ [t], C5, c5, by omega, by go_num, by simp, by simp [HYL.out], HS.out, HO5.out, c6, B6⟩
        case measure => simp [intOf]; omega
    · have hke : k = ps.length := by omega
      have HO5 := Lib.hid ho
      have hke2 := Lib.hid hke
      clear ho hke
      go_wp2_with fail
      go_ret
      exact ⟨ys, C, cc, rfl, by rw [HYL.out, hke2.out], HCO.out, own_base HO5.out (by omega), BB⟩
end Go.Proofs.Ytndckncoipkhaaa
