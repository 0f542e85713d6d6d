/-
  impl.FieldsPut answers the text of a record.
-/
import Derived.Test.YtehmaacbmkfedaaDoorPutS
import Derived.Lib.AppendStr
namespace Go.Proofs.YtehmaacbmkfedaaDoor
open Go.RowKit

def cellsOf (l : List UInt8) : List Value := l.map fun c => Value.int .u8 (c.toNat : Int)
theorem cellsOf_len (l : List UInt8) : (cellsOf l).length = l.length := by simp [cellsOf]
theorem cellsOf_app (l m : List UInt8) : cellsOf (l ++ m) = cellsOf l ++ cellsOf m := by simp [cellsOf]
theorem Tryd.info5 : (Tryd.prog.info? 5).map (fun i => (i.zero, i.size, i.bytes)) = some (some (.int .u8 0), 1, 1) := by kernel_rfl
theorem strOf_nums (l : List UInt8) : strOfNums (l.map fun c => (c.toNat : Int)) = strOf l := by
  unfold strOfNums strOf
  congr 2
  rw [List.map_map]
  conv => rhs; rw [← List.map_id l]
  apply List.map_congr_left
  intro c _
  simp
theorem conv_own {w : World} {base n : Nat} {v : Value} {l : List UInt8} (h : w.ownsRow base 5 1 v n (cellsOf l)) :
    (convert 42 9 v).run Tryd.prog w = .ok (.string (strOf l)) w := by
  have hl := h.1
  rw [cellsOf_len] at hl
  have hc := fun g hg => h.cells (g := g) hg
  rcases h.2 with ⟨rfl, rfl⟩ | ⟨g, cap, cur, rfl, _⟩
  · have : l = [] := List.eq_nil_of_length_eq_zero (by omega)
    subst this
    exact run_convert_bytes_nil w 42 5 Tryd.underlying42 Tryd.underlying5 0 0 9 Tryd.underlying9
  · have hr := run_convert_bytes_arg (P := Tryd.prog) w 42 5 Tryd.underlying42 Tryd.underlying5 g 0 n cap (l.map fun c => (c.toNat : Int)) (by simp; omega) (fun i hi => by
      have hh := hc g rfl i (.int .u8 ((l[i]'(by omega)).toNat : Int)) (by simp [cellsOf, List.getElem?_map, List.getElem?_eq_getElem (show i < l.length by omega)])
      have hplain : (⟨g, 0, none⟩ : Addr).add i = ⟨g, 0 + i, none⟩ := by unfold Addr.add; split <;> simp_all
      rw [hplain] at hh
      rw [hh]
      simp [List.getD, List.getElem?_map, List.getElem?_eq_getElem (show i < l.length by omega)]) 9 Tryd.underlying9
    rw [hr, strOf_nums]
theorem own_next {w : World} {base n : Nat} {v : Value} {l m : List UInt8} {news : List Value} (h : w.ownsRow base 5 1 v n (cellsOf l ++ news)) (hn : news = cellsOf m) (hk : n = l.length + m.length) :
    w.ownsRow base 5 1 v (l ++ m).length (cellsOf (l ++ m)) := by
  rw [cellsOf_app, List.length_append, ← hk, ← hn]
  exact h
theorem own_form {W : World} {base n : Nat} {v : Value} {xs : List Value} (h : W.ownsRow base 5 1 v n xs) (hn : 0 < n) : ∃ g cap, v = .slice (some ⟨g, 0, none⟩) n cap := by
  rcases h.2 with ⟨_, h0⟩ | ⟨g, cap, _, rfl, _⟩
  · omega
  · exact ⟨g, cap, rfl⟩
theorem byte_cells (l : List UInt8) : Lib.byteCells l = cellsOf l := rfl
theorem str_cells (s : ByteArray) : Lib.strCells s = cellsOf s.data.toList := rfl
theorem itoa_nat (n : Nat) : Lib.itoa (n : Int) = Lib.decDigits n := by
  unfold Lib.itoa
  rw [if_neg (by omega), Int.toNat_natCast]

set_option maxRecDepth 100000 in
set_option maxHeartbeats 1000000 in
theorem impl_fput (A : Option Addr) (cap : Nat) (ss : List ByteArray) (w : World) (hn : ss.length ≤ 1048576) (hs : ∀ s ∈ ss, s.size ≤ 1048576) (hA : StrsAt w A ss)
    (hT : Lib.TabBelow Tryd.prog w.heap.size w "internal/strconv.uint64pow10" .u64 Lib.pow10Tab) :
    Calls Tryd.prog 49 #[.slice A ss.length cap] w (FPost (fput ss) w) := by
  obtain ⟨i0, hi, hz0, hz1, hz2⟩ := info_parts Tryd.info5
  by_cases h60 : ss.length ≤ 60
  · have h60' : ¬ (60 : Int) < (ss.length : Int) := by omega
    go_enter Tryd.func49, Tryd.ntmps49
    go_wp2
    go_loopg [4, 13] ss.length (fun g v i wr => ∃ k : Nat, g = ss.length - k ∧ k ≤ ss.length ∧ i = .int .i64 k ∧ wr.ownsRow w.heap.size 5 1 v (recL (ss.take k)).length (cellsOf (recL (ss.take k))) ∧ (recL (ss.take k)).length ≤ 2048 ∧ Below w.heap.size w wr)
    case atStart => exact ⟨0, rfl, Nat.zero_le _, rfl, World.ownsRow_made _ #[] 0 (Nat.le_refl _) (by decide) rfl, by simp [recL], (Below.refl _ _).alloc (Nat.le_refl _) _⟩
    case round =>
      obtain ⟨k, hg, hk, rfl, ho, hl, hb⟩ := hrel
      have HG := Lib.hid hg
      clear hg
      have hsz := hb.size
      by_cases hlt : k < ss.length
      · obtain ⟨b, off, rfl, hlb, hc⟩ := hA (by omega)
        have hck := (hb.cell (p := ⟨b, off + k, none⟩) hlb).trans (hc k hlt)
        have hsk := hs ss[k] (by simp)
        have hrt := recL_take ss k hlt
        have hpt := recL_part ss (k + 1)
        have hel := encF_len ss[k]
        obtain ⟨x, hx⟩ : ∃ x, x = ss[k] := ⟨_, rfl⟩
        rw [← hx] at hck hsk hrt hel
        have hlt' : (k : Int) < (ss.length : Int) := by omega
        have hdl := dec_len9 x.size (by omega)
        have hit := itoa_nat x.size
        have hen : encF x = Lib.decDigits x.size ++ [58] ++ x.data.toList := rfl
        obtain ⟨d, hd⟩ : ∃ d, d = Lib.decDigits x.size := ⟨_, rfl⟩
        rw [← hd] at hdl hel hit hen
        obtain ⟨o, ho2⟩ : ∃ o, o = recL (ss.take k) := ⟨_, rfl⟩
        rw [← ho2] at hl hrt ho
        rw [hrt, List.length_append] at hpt
        have hI := Tryd.strconv_AppendInt_10 w.heap.size o.length (x.size : Int) (by omega) (by omega) _ (cellsOf o) wr ho hsz (by omega) (hT.on hb)
        rw [hit, byte_cells] at hI
        obtain ⟨o1, ho1⟩ : ∃ o1, o1 = o ++ d := ⟨_, rfl⟩
        obtain ⟨o2, ho2'⟩ : ∃ o2, o2 = o1 ++ [58] := ⟨_, rfl⟩
        obtain ⟨o3, ho3⟩ : ∃ o3, o3 = o2 ++ x.data.toList := ⟨_, rfl⟩
        have hl1 : o1.length = o.length + d.length := by rw [ho1, List.length_append]
        have hl2 : o2.length = o1.length + 1 := by rw [ho2', List.length_append, List.length_singleton]
        have hl3 : o3.length = o2.length + x.size := by rw [ho3, List.length_append]; simp
        have hI2 := hI.mono (R' := fun e w' => ∃ v', e = .returned v' ∧ w'.ownsRow w.heap.size 5 1 v' o1.length (cellsOf o1) ∧ Below w.heap.size wr w') (by
          rintro e w' ⟨v', he, h1, h2, _⟩
          exact ⟨v', he, by rw [ho1, cellsOf_app, List.length_append]; exact h1, h2⟩)
        have hdp : 0 < d.length := by rw [hd]; exact List.length_pos_iff.2 (dec_digs x.size).2.2
        have hfin : o ++ encF x = o3 := by rw [ho3, ho2', ho1, hen]; simp
        rw [hfin] at hrt
        have hb1 : o1.length ≤ 2100 := by omega
        have hb0 : 0 < o1.length := by omega
        have HR := Lib.hid hrt
        have HP := Lib.hid hpt
        have HL := Lib.hid hel
        have H2 := Lib.hid ho2'
        have H3 := Lib.hid ho3
        have L2 := Lib.hid hl2
        have L3 := Lib.hid hl3
        have L1 := Lib.hid hl1
        clear hI hit hen hrt hpt hel hd hx hc ho2 ho1 ho2' ho3 hl2 hl3 hl1 hfin
        go_wp2_with (go_at_call 74; refine hI2.mono ?_; rintro e w1 ⟨v1, rfl, hr1, hbw1⟩; refine Hid.out ?_)
        refine Lib.hid ?_
        have B1 : Below w.heap.size w w1 := hb.trans hbw1
        have hs1 := B1.size
        clear ho hb hbw1
        go_wp2_with (at_builtin; refine Lib.wpList_append_own_string _ rfl _ _ 42 9 rfl w.heap.size 5 i0 Tryd.underlying42 Tryd.underlying9 hi hz0 hz1 hz2 _ _ _ rfl hr1 ⟨#[58]⟩ rfl (by show o1.length + 1 ≤ maxLen; unfold maxLen; omega) (by show o1.length + 1 ≤ 140737488355328; omega) hs1 ?_; intro v2 w2 hown' hgrow _; refine Hid.out ?_)
        refine Lib.hid ?_
        have R2 := own_next hown' (m := [58]) rfl rfl
        rw [← H2.out] at R2
        have B2 : Below w.heap.size w w2 := B1.grown hgrow hs1 (fun j e => (hr1.lt j e).1)
        obtain ⟨g2, c2, rfl⟩ := own_form R2 (by have := L2.out; omega)
        have hs2 := B2.size
        have hb2 : o2.length ≤ 2101 := by have := L2.out; omega
        clear hown' hgrow hr1 B1 hs1
        by_cases hbig : 2048 - (o2.length : Int) < (x.size : Int)
        · have HF := Lib.hid (fput_long (ss := ss) (by have h1 := HP.out; have h2 := HL.out; have h3 := L2.out; have h4 := L1.out; omega))
          go_wp2_with fail
          go_ret2
          exact ⟨by rw [HF.out]; rfl, B2⟩
        · go_wp2_with (at_builtin; refine Lib.wpList_append_own_string _ rfl _ _ 42 9 rfl w.heap.size 5 i0 Tryd.underlying42 Tryd.underlying9 hi hz0 hz1 hz2 _ _ _ rfl R2 x rfl (by unfold maxLen; omega) (by omega) hs2 ?_; intro v3 w3 hown' hgrow _; refine Hid.out ?_)
          refine Lib.hid ?_
          have R3 := own_next hown' (m := x.data.toList) (str_cells x) (by simp)
          rw [← H3.out] at R3
          have B3 : Below w.heap.size w w3 := B2.grown hgrow hs2 (fun j e => (R2.lt j e).1)
          have hfit : o3.length ≤ 2048 := by have := L3.out; omega
          clear hown' hgrow R2 B2
          go_wp2_with fail
          go_roundg (ss.length - (k + 1))
          case measure => have := HG.out; omega
          case rel => exact ⟨k + 1, rfl, by omega, by go_num, by rw [HR.out]; exact R3, by rw [HR.out]; exact hfit, B3⟩
      · have hke : k = ss.length := by omega
        subst hke
        rw [List.take_length] at hl ho
        have hcv := conv_own ho
        have HF := Lib.hid (fput_yes h60 hl)
        go_wp2_with fail
        go_ret2
        exact ⟨by rw [HF.out]; rfl, hb⟩
  · have HF := Lib.hid (fput_many h60)
    have h60' : (60 : Int) < (ss.length : Int) := by omega
    go_enter Tryd.func49, Tryd.ntmps49
    go_wp2
    go_ret2
    exact ⟨by rw [HF.out]; rfl, Below.refl _ _⟩

end Go.Proofs.YtehmaacbmkfedaaDoor
