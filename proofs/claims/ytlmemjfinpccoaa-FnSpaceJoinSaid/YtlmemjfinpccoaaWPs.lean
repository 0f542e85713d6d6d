/-
  The walk of FnSpaceOf.
-/
import Derived.Test.YtlmemjfinpccoaaWOf
import Derived.Test.YtlmemjfinpccoaaPuJ
import Derived.Test.YtlmemjfinpccoaaDrQ
import Derived.Test.YtlmemjfinpccoaaSpG
namespace Go.Proofs.Ytlmemjfinpccoaa
open Go.RowKit

theorem PtrsAt.tail {W : World} {g : Nat} {p : P5} {tl : List P5} (h : PtrsAt W g (p :: tl)) : PArg W (some ⟨g, 5, none⟩) tl := fun _ =>
  ⟨g, 5, rfl, h.1, fun j hj k v hk hv => by
    have := h.2 (5 * (j + 1) + k) v ((flat_at (p :: tl) (j + 1) k (by simpa using hj) hk).trans (by simpa using hv))
    rwa [show 0 + (5 * (j + 1) + k) = 5 + (j * 5 + k) by omega] at this⟩

set_option maxRecDepth 100000 in
set_option maxHeartbeats 8000000 in
theorem walk_pof (A : Option Addr) (nb cap : Nat) (w : World) (hnb : nb ≤ cap) (hA : BytesAt w A nb) : Calls Try.prog 16 #[.slice A nb cap] w fun r w' => r = .returned (.bool true) ∧ Below w.heap.size w w' := by
  have hD := draw_of A nb cap w hnb hA
  by_cases hbig : (1048576 : Int) < (nb : Int)
  · go_enter Try.func16, Try.ntmps16
    go_wp2_with fail
    go_ret
    exact ⟨rfl, Below.refl _ _⟩
  clear hA hnb
  go_enter Try.func16, Try.ntmps16
  go_wp2_with (go_at_call 52; refine hD.mono ?_; rintro r w1 ⟨ps, g, c, rfl, hl, ho, BB⟩; refine Hid.out ?_)
  refine Lib.hid ?_
  have hp := PtrsAt.of_own ho
  have hd : ps.length ≤ 1048576 := by omega
  have hSp := fun W hW => spec_of (some ⟨g, 0, none⟩) c ps W hd hW
  have hIm := fun W hW => impl_of (some ⟨g, 0, none⟩) c ps W hd hW
  have hDn := of_len ps
  have hcap : ps.length ≤ c := by
    rcases ho.2 with ⟨h, _⟩ | ⟨g', cap', cur, e, _, _, hle, _⟩
    · cases h
    · cases e
      exact hle
  clear ho hD hbig
  have hFY : (ofS ps).2 = true → fineB ps = true := fun h => by
    unfold ofS at h
    split at h
    · assumption
    · cases h
  have hDY : (ofS ps).2 = true → (ofS ps).1 = spOf (ofU ps) := fun h => by rw [ofS_yes (hFY h)]
  obtain ⟨D, hD⟩ : ∃ D, D = (ofS ps).1 := ⟨_, rfl⟩
  obtain ⟨b, hb⟩ : ∃ b, b = (ofS ps).2 := ⟨_, rfl⟩
  simp only [← hD, ← hb] at hSp hIm hDn hFY hDY
  have HFY := Lib.hid hFY
  have HDY := Lib.hid hDY
  have hbb : (b == b) = true := by simp
  clear hD hb hFY hDY
  obtain ⟨hD1, hD2⟩ := hDn
  have L := hIm w1 hp.arg
  go_wp2_with (go_at_call 41; refine L.mono ?_; rintro r w2 ⟨A2, c2, E2, e2, rfl, o2, hb2⟩; refine Hid.out ?_)
  refine Lib.hid ?_
  have bl : Below w2.heap.size w2 (w2.alloc (.cells #[.slice A2 D.refs.length c2, .slice E2 D.last.length e2] 24)) := (Below.refl _ _).alloc (Nat.le_refl _) _
  have b4 := B2.new w2 24 (.slice A2 D.refs.length c2) (.slice E2 D.last.length e2)
  replace hp := (hp.below hb2).below bl
  have hx := o2.lies.below bl
  replace BB := bel_then (bel_then BB hb2) bl
  clear L hIm o2 hb2 bl
  have L := hSp _ hp.arg
  go_wp2_with (go_at_call 39; refine L.mono ?_; rintro r w3 ⟨A3, c3, E3, e3, rfl, o3, hb3⟩; refine Hid.out ?_)
  refine Lib.hid ?_
  have bl : Below w3.heap.size w3 (w3.alloc (.cells #[.slice A3 D.refs.length c3, .slice E3 D.last.length e3] 24)) := (Below.refl _ _).alloc (Nat.le_refl _) _
  have b6 := B2.new w3 24 (.slice A3 D.refs.length c3) (.slice E3 D.last.length e3)
  replace b4 := (b4.below hb3).below bl
  replace hp := (hp.below hb3).below bl
  replace hx := (hx.below hb3).below bl
  have hw := o3.lies.below bl
  replace BB := bel_then (bel_then BB hb3) bl
  clear L hSp o3 hb3 bl
  have K := pf_space A2 E2 A3 E3 c2 e2 c3 e3 D _ hD1 hD2 hx hw
  obtain ⟨⟨x0, x1⟩, _⟩ := b4.cells
  obtain ⟨⟨y0, y1⟩, _⟩ := b6.cells
  go_wp2_with (go_at_call 44; refine K.mono ?_; rintro r w4 ⟨rfl, hb4⟩; refine Hid.out ?_)
  refine Lib.hid ?_
  replace b4 := b4.below hb4
  replace hp := hp.below hb4
  replace hx := hx.below hb4
  replace BB := bel_then BB hb4
  clear K hw b6 x0 x1 y0 y1 hb4
  cases b with
  | false =>
    go_wp2_with fail
    go_ret
    exact ⟨rfl, BB⟩
  | true =>
    have hf := HFY.out rfl
    have hval := of_valid hf
    have hsum := sum_all hf
    have hsm := small_ok hval
    rw [← HDY.out rfl] at hval hsum hsm
    have HF := Lib.hid hf
    have HV := Lib.hid hval
    have HS := Lib.hid hsum
    clear hf hval hsum
    go_wp2_with fail
    go_loopw [9, 10] (fun n i wr => ∃ k : Nat, k ≤ ps.length ∧ i = .int .i64 k ∧ n = .int .i64 (full (ps.take k) : Nat) ∧ B2 wr w2.heap.size 24 (.slice A2 D.refs.length c2) (.slice E2 D.last.length e2) ∧ PtrsAt wr g ps ∧ SpAt wr A2 E2 D ∧ Below w.heap.size w wr) (fun _ i _ => ps.length - (intOf i).toNat)
    case atStart => exact ⟨0, Nat.zero_le _, rfl, rfl, b4, hp, hx, BB⟩
    case round =>
      clear b4 hp hx BB
      obtain ⟨k, hk, rfl, rfl, b4, hp, hx, BB⟩ := hrel
      by_cases hlt : k < ps.length
      · obtain ⟨P, hP⟩ : ∃ P, P = ps[k] := ⟨_, rfl⟩
        obtain ⟨z0, z1, z2, z3, z4⟩ := hp.cell k hlt (a := P.a) (c := P.b) (d := P.c) (e := P.d) (f := P.e) (by rw [← hP])
        have hH : ∀ W, Calls Try.prog 53 #[.agg #[.int .i64 P.a, .int .i64 P.b, .int .i64 P.c, .int .i64 P.d, .int .i64 P.e]] W fun r w' => r = .returned (.bool P.hole) ∧ Below W.heap.size W w' := fun W => (impl_hole P.a P.b P.c P.d P.e W).mono fun r w' ⟨h1, h2⟩ => ⟨h1, h2 ▸ bel_new (bel_new (Below.refl _ _) _) _⟩
        have hfl := full_take hlt
        rw [← hP] at hfl
        have hle := full_le (ps.take k)
        rw [List.length_take] at hle
        have hle2 : full (ps.take k) ≤ 8 := by omega
        obtain ⟨f0, hf0⟩ : ∃ f, f = full (ps.take k) := ⟨_, rfl⟩
        rw [← hf0] at hle2 hfl ⊢
        have HFL := Lib.hid hfl
        clear hf0 hfl hle hP
        cases hh : P.hole with
        | true =>
          rw [hh] at hH
          have HN : Hid (full (ps.take (k + 1)) = f0) := Lib.hid (by rw [HFL.out, hh]; rfl)
          clear hh
          go_wp2_with (go_at_call 53; refine (hH _).mono ?_; rintro r w5 ⟨rfl, hb5⟩)
          go_roundw
          case rel => exact ⟨k + 1, by omega, by go_num, by rw [HN.out], b4.below hb5, hp.below hb5, hx.below hb5, bel_then BB hb5⟩
          case measure => simp [intOf]; omega
        | false =>
          rw [hh] at hH
          have HN : Hid (full (ps.take (k + 1)) = f0 + 1) := Lib.hid (by rw [HFL.out, hh]; rfl)
          clear hh
          go_wp2_with (go_at_call 53; refine (hH _).mono ?_; rintro r w5 ⟨rfl, hb5⟩)
          go_roundw
          case rel => exact ⟨k + 1, by omega, by go_num, by rw [HN.out]; go_num, b4.below hb5, hp.below hb5, hx.below hb5, bel_then BB hb5⟩
          case measure => simp [intOf]; omega
      · have hke : k = ps.length := by omega
        subst hke
        rw [List.take_length]
        have hO := fun W hW => impl_ok A2 E2 c2 e2 D W hD1 hD2 (hx.below (w' := W) hW)
        rw [okS_yes HV.out] at hO
        have hS := fun W (hW : Below wr.heap.size wr W) => pf_sum A2 c2 D.refs W hD1 hsm ((hx.below (w' := W) hW).1)
        rw [HS.out] at hS
        have hnn : ((full ps : Int) != (full ps : Int)) = false := by simp
        have hfl := full_le ps
        clear hlt
        cases ps with
        | nil =>
          have hz : full [] = 0 := rfl
          rw [hz] at hS hnn ⊢
          obtain ⟨⟨x0, x1⟩, _, _⟩ := b4.cells
          have BR := Below.refl wr.heap.size wr
          go_wp2_with (first
            | (go_at_call 27; refine (hO _ BR).mono ?_; rintro r w5 ⟨rfl, hb5⟩; replace b4 := b4.below hb5; replace BB := bel_then BB hb5; replace BR := bel_then BR hb5; obtain ⟨⟨x0, x1⟩, _, _⟩ := b4.cells)
            | (go_at_call 50; refine (hS _ BR).mono ?_; rintro r w5 ⟨rfl, rfl⟩))
          go_ret
          exact ⟨rfl, BB⟩
        | cons p tl =>
          have hf2 : fineB tl = true := fine_right (a := [p]) HF.out
          have hof := ofS_yes hf2
          obtain ⟨qq, cc, hqc, hIm⟩ : ∃ (qq : Nat) (cc : Nat), ((c = 1 ∧ qq = 0 ∧ cc = 0) ∨ (c ≠ 1 ∧ qq = 5 ∧ cc = c - 1)) ∧ ∀ W, PtrsAt W g (p :: tl) → Calls Try.prog 41 #[.slice (some ⟨g, qq, none⟩) tl.length cc] W (SPost2 (ofS tl).1 (ofS tl).2 W) := by
            by_cases hc1 : c = 1
            · refine ⟨0, 0, .inl ⟨hc1, rfl, rfl⟩, fun W _ => impl_of _ _ tl W (by simp at hd; omega) (fun h => ?_)⟩
              simp at hcap
              omega
            · exact ⟨5, c - 1, .inr ⟨hc1, rfl, rfl⟩, fun W hW => impl_of _ _ tl W (by simp at hd; omega) hW.tail⟩
          rw [hof] at hIm
          have hs2 := sum_all hf2
          have hv2 := of_valid hf2
          have hsm2 := small_ok hv2
          obtain ⟨D2, hD2'⟩ : ∃ D, D = spOf (ofU tl) := ⟨_, rfl⟩
          simp only [← hD2'] at hIm hs2 hv2 hsm2
          have hr2 : D2.refs.length ≤ 1048576 := by rw [hv2.1]; omega
          have HS2 := Lib.hid hs2
          have hlen : (p :: tl).length = tl.length + 1 := rfl
          have hft : full (p :: tl) = (if p.hole = false then 1 else 0) + full tl := rfl
          rw [hlen] at hfl hl hd
          obtain ⟨F, hFF⟩ : ∃ F, F = full (p :: tl) := ⟨_, rfl⟩
          rw [← hFF] at hS hnn hft hfl ⊢
          have HFT := Lib.hid hft
          have hP : ∀ W, Calls Try.prog 53 #[.agg #[.int .i64 p.a, .int .i64 p.b, .int .i64 p.c, .int .i64 p.d, .int .i64 p.e]] W fun r w' => r = .returned (.bool p.hole) ∧ Below W.heap.size W w' := fun W => (impl_hole p.a p.b p.c p.d p.e W).mono fun r w' ⟨h1, h2⟩ => ⟨h1, h2 ▸ bel_new (bel_new (Below.refl _ _) _) _⟩
          clear hof hf2 hv2 hD2' hft hFF
          obtain ⟨⟨x0, x1⟩, _, _⟩ := b4.cells
          have BR := Below.refl wr.heap.size wr
          have hl0 : ((tl.length : Int) + 1 == 0) = false := by simp; omega
          have hcap1 : 1 ≤ c := by simp at hcap; omega
          simp only [List.length_cons] at hcap
          have walk1 : True := trivial
          rcases hqc with ⟨rfl, rfl, rfl⟩ | ⟨hc1, rfl, rfl⟩
          · obtain rfl : tl = [] := List.eq_nil_of_length_eq_zero (by omega)
            go_wp2_with (first
              | (go_at_call 27; refine (hO _ BR).mono ?_; rintro r w5 ⟨rfl, hb5⟩; replace b4 := b4.below hb5; replace hp := hp.below hb5; replace BB := bel_then BB hb5; replace BR := bel_then BR hb5; obtain ⟨⟨x0, x1⟩, _, _⟩ := b4.cells)
              | (go_at_call 50; refine (hS _ BR).mono ?_; rintro r w5 ⟨rfl, rfl⟩)
              | (go_at_call 41; refine Hid.out ?_))
            refine Lib.hid ?_
            refine (hIm _ hp).mono ?_
            rintro r w6 ⟨A6, c6, E6, e6, rfl, o6, hb6⟩
            refine Hid.out ?_
            refine Lib.hid ?_
            have bl : Below w6.heap.size w6 (w6.alloc (.cells #[.slice A6 D2.refs.length c6, .slice E6 D2.last.length e6] 24)) := (Below.refl _ _).alloc (Nat.le_refl _) _
            have b11 := B2.new w6 24 (.slice A6 D2.refs.length c6) (.slice E6 D2.last.length e6)
            replace hp := (hp.below hb6).below bl
            replace BB := bel_then (bel_then BB hb6) bl
            have hy := o6.lies.below bl
            obtain ⟨z0, z1, z2, z3, z4⟩ := hp.cell 0 (by simp) (a := p.a) (c := p.b) (d := p.c) (e := p.d) (f := p.e) rfl
            simp only [Nat.zero_mul, Nat.zero_add] at z0 z1 z2 z3 z4
            have hT := fun W (hW : Below (w6.alloc (.cells #[.slice A6 D2.refs.length c6, .slice E6 D2.last.length e6] 24)).heap.size (w6.alloc (.cells #[.slice A6 D2.refs.length c6, .slice E6 D2.last.length e6] 24)) W) => pf_sum A6 c6 D2.refs W hr2 hsm2 ((hy.below (w' := W) hW).1)
            rw [HS2.out] at hT
            clear hIm hO hS o6 hb6 bl hx b4 x0 x1 BR
            cases hh : p.hole with
            | true =>
              have hF : F = full ([] : List P5) := by have := HFT.out; rw [hh] at this; simpa using this
              rw [hh] at hP
              rw [← hF] at hT
              have hq : ((F : Int) == (F : Int)) = true := by simp
              clear hF hh
              go_wp2_with (first
                | (go_at_call 53; refine (hP _).mono ?_; rintro r w7 ⟨rfl, hb7⟩; obtain ⟨⟨y0, y1⟩, _, _⟩ := (b11.below hb7).cells)
                | (go_at_call 50; refine (hT _ hb7).mono ?_; rintro r w8 ⟨rfl, rfl⟩))
              go_ret
              exact ⟨rfl, bel_then BB hb7⟩
            | false =>
              have hF : F = 1 + full ([] : List P5) := by have := HFT.out; rw [hh] at this; simpa using this
              rw [hh] at hP
              have hfl2 : full ([] : List P5) ≤ 8 := by omega
              obtain ⟨u, hu⟩ : ∃ u, u = full ([] : List P5) := ⟨_, rfl⟩
              rw [← hu] at hT hF hfl2
              have hF2 : (F : Int) - 1 = (u : Int) := by omega
              have hq : ((u : Int) == (u : Int)) = true := by simp
              clear hF hh hu
              go_wp2_with (first
                | (go_at_call 53; refine (hP _).mono ?_; rintro r w7 ⟨rfl, hb7⟩; obtain ⟨⟨y0, y1⟩, _, _⟩ := (b11.below hb7).cells)
                | (go_at_call 50; refine (hT _ hb7).mono ?_; rintro r w8 ⟨rfl, rfl⟩))
              go_ret
              exact ⟨rfl, bel_then BB hb7⟩
          · go_wp2_with (first
              | (go_at_call 27; refine (hO _ BR).mono ?_; rintro r w5 ⟨rfl, hb5⟩; replace b4 := b4.below hb5; replace hp := hp.below hb5; replace BB := bel_then BB hb5; replace BR := bel_then BR hb5; obtain ⟨⟨x0, x1⟩, _, _⟩ := b4.cells)
              | (go_at_call 50; refine (hS _ BR).mono ?_; rintro r w5 ⟨rfl, rfl⟩)
              | (go_at_call 41; refine Hid.out ?_))
            refine Lib.hid ?_
            refine (hIm _ hp).mono ?_
            rintro r w6 ⟨A6, c6, E6, e6, rfl, o6, hb6⟩
            refine Hid.out ?_
            refine Lib.hid ?_
            have bl : Below w6.heap.size w6 (w6.alloc (.cells #[.slice A6 D2.refs.length c6, .slice E6 D2.last.length e6] 24)) := (Below.refl _ _).alloc (Nat.le_refl _) _
            have b11 := B2.new w6 24 (.slice A6 D2.refs.length c6) (.slice E6 D2.last.length e6)
            replace hp := (hp.below hb6).below bl
            replace BB := bel_then (bel_then BB hb6) bl
            have hy := o6.lies.below bl
            obtain ⟨z0, z1, z2, z3, z4⟩ := hp.cell 0 (by simp) (a := p.a) (c := p.b) (d := p.c) (e := p.d) (f := p.e) rfl
            simp only [Nat.zero_mul, Nat.zero_add] at z0 z1 z2 z3 z4
            have hT := fun W (hW : Below (w6.alloc (.cells #[.slice A6 D2.refs.length c6, .slice E6 D2.last.length e6] 24)).heap.size (w6.alloc (.cells #[.slice A6 D2.refs.length c6, .slice E6 D2.last.length e6] 24)) W) => pf_sum A6 c6 D2.refs W hr2 hsm2 ((hy.below (w' := W) hW).1)
            rw [HS2.out] at hT
            clear hIm hO hS o6 hb6 bl hx b4 x0 x1 BR
            cases hh : p.hole with
            | true =>
              have hF : F = full tl := by have := HFT.out; rw [hh] at this; simpa using this
              rw [hh] at hP
              rw [← hF] at hT
              have hq : ((F : Int) == (F : Int)) = true := by simp
              clear hF hh
              go_wp2_with (first
                | (go_at_call 53; refine (hP _).mono ?_; rintro r w7 ⟨rfl, hb7⟩; obtain ⟨⟨y0, y1⟩, _, _⟩ := (b11.below hb7).cells)
                | (go_at_call 50; refine (hT _ hb7).mono ?_; rintro r w8 ⟨rfl, rfl⟩))
              go_ret
              exact ⟨rfl, bel_then BB hb7⟩
            | false =>
              have hF : F = 1 + full tl := by have := HFT.out; rw [hh] at this; simpa using this
              rw [hh] at hP
              have hfl2 : full tl ≤ 8 := by omega
              obtain ⟨u, hu⟩ : ∃ u, u = full tl := ⟨_, rfl⟩
              rw [← hu] at hT hF hfl2
              have hF2 : (F : Int) - 1 = (u : Int) := by omega
              have hq : ((u : Int) == (u : Int)) = true := by simp
              clear hF hh hu
              go_wp2_with (first
                | (go_at_call 53; refine (hP _).mono ?_; rintro r w7 ⟨rfl, hb7⟩; obtain ⟨⟨y0, y1⟩, _, _⟩ := (b11.below hb7).cells)
                | (go_at_call 50; refine (hT _ hb7).mono ?_; rintro r w8 ⟨rfl, rfl⟩))
              go_ret
              exact ⟨rfl, bel_then BB hb7⟩
end Go.Proofs.Ytlmemjfinpccoaa
