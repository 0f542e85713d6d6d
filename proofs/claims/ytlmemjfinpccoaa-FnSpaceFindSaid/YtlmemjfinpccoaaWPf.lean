/-
  The walk of FnSpaceFind.
-/
import Derived.Test.YtlmemjfinpccoaaDrF
import Derived.Test.YtlmemjfinpccoaaPuF
import Derived.Test.YtlmemjfinpccoaaFndI
import Derived.Test.YtlmemjfinpccoaaWPt
namespace Go.Proofs.Ytlmemjfinpccoaa
open Go.RowKit

set_option maxRecDepth 100000 in
set_option maxHeartbeats 8000000 in
theorem walk_pfind (A : Option Addr) (nb cap : Nat) (w : World) (hnb : nb ≤ cap) (hA : BytesAt w A nb) : Calls Try.prog 13 #[.slice A nb cap] w fun r w' => r = .returned (.bool true) ∧ Below w.heap.size w w' := by
  have hD := draw_find A nb cap w hnb hA
  by_cases hbig : (1048576 : Int) < (nb : Int)
  · go_enter Try.func13, Try.ntmps13
    go_wp2_with fail
    go_ret
    exact ⟨rfl, Below.refl _ _⟩
  clear hA hnb
  go_enter Try.func13, Try.ntmps13
  go_wp2_with (go_at_call 47; refine hD.mono ?_; rintro r w1 ⟨A1, c1, E1, e1, d, C, cc, but, f, f0, f1, rfl, hs, hC, hn, hm, hbn, hb1⟩; refine Hid.out ?_)
  refine Lib.hid ?_
  replace hn : d.refs.length ≤ 1048576 := by omega
  replace hm : d.last.length ≤ 1048576 := by omega
  replace hbn : but.length ≤ 1048576 := by omega
  have b3 := B2.new w1 24 (.slice A1 d.refs.length c1) (.slice E1 d.last.length e1)
  have bl : Below w1.heap.size w1 (w1.alloc (.cells #[.slice A1 d.refs.length c1, .slice E1 d.last.length e1] 24)) := (Below.refl _ _).alloc (Nat.le_refl _) _
  replace hs := hs.below bl
  replace hC := hC.below bl
  have BB := bel_then hb1 bl
  have hI := fun W h1 h2 => impl_find A1 E1 C c1 e1 cc d f but W hn hm hbn h1 h2
  have hS := fun W h1 h2 => spec_find A1 E1 C c1 e1 cc d f but W hn hm hbn h1 h2
  have hF := fun h => find_facts (d := d) (f := f) (but := but) h
  obtain ⟨r, hr⟩ : ∃ r, r = findS d f but := ⟨_, rfl⟩
  simp only [← hr] at hI hS hF
  have hrr : (r == r) = true := by simp
  clear hr bl hb1 hD
  have K := hI _ hs hC
  obtain ⟨⟨x0, x1⟩, _⟩ := b3.cells
  go_wp2_with (go_at_call 32; refine K.mono ?_; rintro r' w2 ⟨rfl, hb2⟩; refine Hid.out ?_)
  refine Lib.hid ?_
  replace b3 := b3.below hb2
  replace hs := hs.below hb2
  replace hC := hC.below hb2
  replace BB := bel_then BB hb2
  clear K x0 x1 hb2
  have K := hS _ hs hC
  obtain ⟨⟨x0, x1⟩, _⟩ := b3.cells
  go_wp2_with (go_at_call 30; refine K.mono ?_; rintro r' w3 ⟨rfl, hb3⟩; refine Hid.out ?_)
  refine Lib.hid ?_
  replace b3 := b3.below hb3
  replace hs := hs.below hb3
  replace hC := hC.below hb3
  replace BB := bel_then BB hb3
  clear K x0 x1 hb3 hI hS
  obtain ⟨⟨x0, x1⟩, _⟩ := b3.cells
  by_cases hneg : 0 ≤ r
  · replace hF := hF hneg
    obtain ⟨hd, ⟨k, rfl, hk64, hk0⟩, hout, hmid, hok⟩ := hF
    have HM := Lib.hid hmid
    have HO := Lib.hid hout
    have HB := Lib.hid BB
    obtain ⟨p, q, rfl, hkl⟩ := lies_some hs.1 hk0
    have hck := lies_cell hs.1 hk0
    have hT := (impl_take (some ⟨p, q, none⟩) E1 c1 e1 d (k : Int) 900 w3 (wf_row (by omega) (by omega)) hn hm hs)
    rw [hok] at hT
    obtain ⟨D, hDD⟩ : ∃ D, D = (takeS d (k : Int) 900).1 := ⟨_, rfl⟩
    rw [← hDD] at hT
    clear hDD
    have HLEN := Lib.hid hd.1
    clear hmid hout BB hok hd
    go_wp2_with fail
    go_loop [9] (fun i => ∃ j : Nat, j ≤ but.length ∧ i = .int .i64 j) (fun i => but.length - (intOf i).toNat)
    case atStart => exact ⟨0, Nat.zero_le _, rfl⟩
    case round =>
      obtain ⟨j, hj, rfl⟩ := hrel
      by_cases hlt : j < but.length
      · obtain ⟨b, off, rfl, hlb, hcj⟩ := hC.int j hlt
        obtain ⟨y, hy⟩ : ∃ y, y = but[j] := ⟨_, rfl⟩
        have hyr : (y == (k : Int)) = false := by
          have := HO.out but[j] (List.getElem_mem hlt)
          rw [← hy] at this
          simpa using this
        rw [← hy] at hcj
        have hlt' : (j : Int) < (but.length : Int) := by omega
        clear hy
        go_wp2_with fail
        go_round
        case rel => exact ⟨j + 1, by omega, by go_num⟩
        case measure => simp [intOf]; omega
      · have hje : j = but.length := by omega
        subst hje
        clear hlt
        obtain ⟨n0, hn8, hnf, hcs⟩ : ∃ n0 : Nat, 8 ≤ n0 ∧ f ≤ (n0 : Int) ∧ ((8 < f ∧ f = (n0 : Int)) ∨ (f = 8 ∧ n0 = 8) ∨ (f < 8 ∧ n0 = 8)) := ⟨if 8 < f then f.toNat else 8, by split <;> omega, by split <;> omega, by split <;> omega⟩
        rcases hcs with ⟨hf8, rfl⟩ | ⟨rfl, rfl⟩ | ⟨hf8, rfl⟩
        · go_wp2_with fail
          go_loop [10, 11, 12] (fun a _ _ => ∃ n : Nat, 8 ≤ n ∧ ((n0 : Int) ≤ (n : Int)) ∧ a = .int .i64 n) (fun a _ _ => k - (intOf a).toNat)
          case atStart => first | exact ⟨_, hn8, hnf, rfl⟩ | exact ⟨8, hn8, hnf, rfl⟩
          case round =>
            obtain ⟨n, h8, hfn, rfl⟩ := hrel
            by_cases hlt : n < k
            · obtain ⟨x, hx, hmid⟩ := HM.out n hfn h8 (by omega)
              have HMid := Lib.hid hmid
              have hcx := lies_cell hs.1 hx
              have hnl : (n : Int) < (d.refs.length : Int) := by have := HLEN.out; omega
              have hlt' : (n : Int) < (k : Int) := by omega
              clear hx hmid
              go_wp2_with fail
              go_loop [11, 12] (fun u i => ∃ (b : Bool) (j : Nat), j ≤ but.length ∧ u = .bool b ∧ i = .int .i64 j ∧ (b = true ∨ (n : Int) ∈ but.drop j)) (fun _ i => but.length - (intOf i).toNat)
              case atStart =>
                refine ⟨_, 0, Nat.zero_le _, rfl, rfl, ?_⟩
                rcases HMid.out with h | h
                · exact .inl (by simpa using h)
                · exact .inr (by simpa using h)
              case round =>
                obtain ⟨b, j, hj, rfl, rfl, hb⟩ := hrel
                by_cases hlj : j < but.length
                · have hlj' : (j : Int) < (but.length : Int) := by omega
                  cases b with
                  | true =>
                    clear hb
                    go_wp2_with fail
                    go_round
                    case rel => exact ⟨true, j + 1, by omega, rfl, by go_num, .inl rfl⟩
                    case measure => simp [intOf]; omega
                  | false =>
                    obtain ⟨b', off, rfl, hlb, hcj⟩ := hC.int j hlj
                    obtain ⟨y, hy⟩ : ∃ y, y = but[j] := ⟨_, rfl⟩
                    rw [← hy] at hcj
                    have hb2 : y = (n : Int) ∨ (n : Int) ∈ but.drop (j + 1) := by
                      rcases hb with h | h
                      · cases h
                      · rw [List.drop_eq_getElem_cons hlj, ← hy] at h
                        rcases List.mem_cons.1 h with h | h
                        · exact .inl h.symm
                        · exact .inr h
                    have HB2 := Lib.hid hb2
                    clear hb hb2 hy
                    go_wp2_with fail
                    go_round
                    case rel =>
                      refine ⟨_, j + 1, by omega, rfl, by go_num, ?_⟩
                      rcases HB2.out with h | h
                      · exact .inl (by simpa using h)
                      · exact .inr h
                    case measure => simp [intOf]; omega
                · have hje : j = but.length := by omega
                  subst hje
                  rcases hb with h | h
                  · subst h
                    clear hlj
                    go_wp2_with fail
                    go_round
                    case rel => exact ⟨n + 1, by omega, by omega, by go_num⟩
                    case measure => simp [intOf]; omega
                  · simp at h
            · have hlt' : ¬ (n : Int) < (k : Int) := by omega
              clear hlt
              go_wp2_with (go_at_call 35; refine hT.mono ?_; rintro r' w4 ⟨A4, c4, E4, e4, rfl, o4, hb4⟩; have bl : Below w4.heap.size w4 (w4.alloc (.cells #[.slice A4 D.refs.length c4, .slice E4 D.last.length e4] 24)) := (Below.refl _ _).alloc (Nat.le_refl _) _; have hck4 := lies_cell ((hs.1.below hb4).below bl) hk0; obtain ⟨⟨y0, y1⟩, _⟩ := ((b3.below hb4).below bl).cells)
              go_ret
              exact ⟨rfl, bel_new (bel_then HB.out hb4) _⟩
        · go_wp2_with fail
          go_loop [10, 11, 12] (fun a _ _ => ∃ n : Nat, 8 ≤ n ∧ ((8 : Int) ≤ (n : Int)) ∧ a = .int .i64 n) (fun a _ _ => k - (intOf a).toNat)
          case atStart => first | exact ⟨_, hn8, hnf, rfl⟩ | exact ⟨8, hn8, hnf, rfl⟩
          case round =>
            obtain ⟨n, h8, hfn, rfl⟩ := hrel
            by_cases hlt : n < k
            · obtain ⟨x, hx, hmid⟩ := HM.out n hfn h8 (by omega)
              have HMid := Lib.hid hmid
              have hcx := lies_cell hs.1 hx
              have hnl : (n : Int) < (d.refs.length : Int) := by have := HLEN.out; omega
              have hlt' : (n : Int) < (k : Int) := by omega
              clear hx hmid
              go_wp2_with fail
              go_loop [11, 12] (fun u i => ∃ (b : Bool) (j : Nat), j ≤ but.length ∧ u = .bool b ∧ i = .int .i64 j ∧ (b = true ∨ (n : Int) ∈ but.drop j)) (fun _ i => but.length - (intOf i).toNat)
              case atStart =>
                refine ⟨_, 0, Nat.zero_le _, rfl, rfl, ?_⟩
                rcases HMid.out with h | h
                · exact .inl (by simpa using h)
                · exact .inr (by simpa using h)
              case round =>
                obtain ⟨b, j, hj, rfl, rfl, hb⟩ := hrel
                by_cases hlj : j < but.length
                · have hlj' : (j : Int) < (but.length : Int) := by omega
                  cases b with
                  | true =>
                    clear hb
                    go_wp2_with fail
                    go_round
                    case rel => exact ⟨true, j + 1, by omega, rfl, by go_num, .inl rfl⟩
                    case measure => simp [intOf]; omega
                  | false =>
                    obtain ⟨b', off, rfl, hlb, hcj⟩ := hC.int j hlj
                    obtain ⟨y, hy⟩ : ∃ y, y = but[j] := ⟨_, rfl⟩
                    rw [← hy] at hcj
                    have hb2 : y = (n : Int) ∨ (n : Int) ∈ but.drop (j + 1) := by
                      rcases hb with h | h
                      · cases h
                      · rw [List.drop_eq_getElem_cons hlj, ← hy] at h
                        rcases List.mem_cons.1 h with h | h
                        · exact .inl h.symm
                        · exact .inr h
                    have HB2 := Lib.hid hb2
                    clear hb hb2 hy
                    go_wp2_with fail
                    go_round
                    case rel =>
                      refine ⟨_, j + 1, by omega, rfl, by go_num, ?_⟩
                      rcases HB2.out with h | h
                      · exact .inl (by simpa using h)
                      · exact .inr h
                    case measure => simp [intOf]; omega
                · have hje : j = but.length := by omega
                  subst hje
                  rcases hb with h | h
                  · subst h
                    clear hlj
                    go_wp2_with fail
                    go_round
                    case rel => exact ⟨n + 1, by omega, by omega, by go_num⟩
                    case measure => simp [intOf]; omega
                  · simp at h
            · have hlt' : ¬ (n : Int) < (k : Int) := by omega
              clear hlt
              go_wp2_with (go_at_call 35; refine hT.mono ?_; rintro r' w4 ⟨A4, c4, E4, e4, rfl, o4, hb4⟩; have bl : Below w4.heap.size w4 (w4.alloc (.cells #[.slice A4 D.refs.length c4, .slice E4 D.last.length e4] 24)) := (Below.refl _ _).alloc (Nat.le_refl _) _; have hck4 := lies_cell ((hs.1.below hb4).below bl) hk0; obtain ⟨⟨y0, y1⟩, _⟩ := ((b3.below hb4).below bl).cells)
              go_ret
              exact ⟨rfl, bel_new (bel_then HB.out hb4) _⟩
        · go_wp2_with fail
          go_loop [10, 11, 12] (fun a _ _ => ∃ n : Nat, 8 ≤ n ∧ (f ≤ (n : Int)) ∧ a = .int .i64 n) (fun a _ _ => k - (intOf a).toNat)
          case atStart => first | exact ⟨_, hn8, hnf, rfl⟩ | exact ⟨8, hn8, hnf, rfl⟩
          case round =>
            obtain ⟨n, h8, hfn, rfl⟩ := hrel
            by_cases hlt : n < k
            · obtain ⟨x, hx, hmid⟩ := HM.out n hfn h8 (by omega)
              have HMid := Lib.hid hmid
              have hcx := lies_cell hs.1 hx
              have hnl : (n : Int) < (d.refs.length : Int) := by have := HLEN.out; omega
              have hlt' : (n : Int) < (k : Int) := by omega
              clear hx hmid
              go_wp2_with fail
              go_loop [11, 12] (fun u i => ∃ (b : Bool) (j : Nat), j ≤ but.length ∧ u = .bool b ∧ i = .int .i64 j ∧ (b = true ∨ (n : Int) ∈ but.drop j)) (fun _ i => but.length - (intOf i).toNat)
              case atStart =>
                refine ⟨_, 0, Nat.zero_le _, rfl, rfl, ?_⟩
                rcases HMid.out with h | h
                · exact .inl (by simpa using h)
                · exact .inr (by simpa using h)
              case round =>
                obtain ⟨b, j, hj, rfl, rfl, hb⟩ := hrel
                by_cases hlj : j < but.length
                · have hlj' : (j : Int) < (but.length : Int) := by omega
                  cases b with
                  | true =>
                    clear hb
                    go_wp2_with fail
                    go_round
                    case rel => exact ⟨true, j + 1, by omega, rfl, by go_num, .inl rfl⟩
                    case measure => simp [intOf]; omega
                  | false =>
                    obtain ⟨b', off, rfl, hlb, hcj⟩ := hC.int j hlj
                    obtain ⟨y, hy⟩ : ∃ y, y = but[j] := ⟨_, rfl⟩
                    rw [← hy] at hcj
                    have hb2 : y = (n : Int) ∨ (n : Int) ∈ but.drop (j + 1) := by
                      rcases hb with h | h
                      · cases h
                      · rw [List.drop_eq_getElem_cons hlj, ← hy] at h
                        rcases List.mem_cons.1 h with h | h
                        · exact .inl h.symm
                        · exact .inr h
                    have HB2 := Lib.hid hb2
                    clear hb hb2 hy
                    go_wp2_with fail
                    go_round
                    case rel =>
                      refine ⟨_, j + 1, by omega, rfl, by go_num, ?_⟩
                      rcases HB2.out with h | h
                      · exact .inl (by simpa using h)
                      · exact .inr h
                    case measure => simp [intOf]; omega
                · have hje : j = but.length := by omega
                  subst hje
                  rcases hb with h | h
                  · subst h
                    clear hlj
                    go_wp2_with fail
                    go_round
                    case rel => exact ⟨n + 1, by omega, by omega, by go_num⟩
                    case measure => simp [intOf]; omega
                  · simp at h
            · have hlt' : ¬ (n : Int) < (k : Int) := by omega
              clear hlt
              go_wp2_with (go_at_call 35; refine hT.mono ?_; rintro r' w4 ⟨A4, c4, E4, e4, rfl, o4, hb4⟩; have bl : Below w4.heap.size w4 (w4.alloc (.cells #[.slice A4 D.refs.length c4, .slice E4 D.last.length e4] 24)) := (Below.refl _ _).alloc (Nat.le_refl _) _; have hck4 := lies_cell ((hs.1.below hb4).below bl) hk0; obtain ⟨⟨y0, y1⟩, _⟩ := ((b3.below hb4).below bl).cells)
              go_ret
              exact ⟨rfl, bel_new (bel_then HB.out hb4) _⟩
  · go_wp2_with fail
    go_ret
    exact ⟨rfl, BB⟩
end Go.Proofs.Ytlmemjfinpccoaa
