/-
  The walk of FnSpaceJoin.
-/
import Derived.Test.YtlmemjfinpccoaaWPs
import Derived.Test.YtlmemjfinpccoaaArgB
import Derived.Deep.RegionHeld3
import Derived.IntWalk
namespace Go.Proofs.Ytlmemjfinpccoaa
open Go.RowKit

theorem flat_app (a b : List P5) : flat (a ++ b) = flat a ++ flat b := by simp [flat]
theorem flat_one (ps : List P5) : ∀ u ∈ flat ps, u.oneCell' = true := fun u hu => by
  obtain ⟨p, _, h⟩ := List.mem_flatMap.1 hu
  simp only [P5.cells, List.mem_cons, List.not_mem_nil, or_false] at h
  rcases h with rfl | rfl | rfl | rfl | rfl <;> rfl
theorem PtrsAt.news {W : World} {g : Nat} {ps : List P5} (h : PtrsAt W g ps) : ∀ j u, (flat ps)[j]? = some u → W.cell? ((⟨g, 0, none⟩ : Addr).add j) = some u := fun j u hj => by
  have := h.2 j u hj
  rwa [Nat.zero_add, ← show (⟨g, 0, none⟩ : Addr).add j = ⟨g, j, none⟩ by unfold Addr.add; split <;> simp_all] at this
theorem BytesAt.below {W W' : World} {A : Option Addr} {n : Nat} (h : BytesAt W A n) (hb : Below W.heap.size W W') : BytesAt W' A n := fun h0 => by
  obtain ⟨b, off, rfl, hlt, hc⟩ := h h0
  refine ⟨b, off, rfl, Nat.lt_of_lt_of_le hlt hb.size, fun j hj => ?_⟩
  obtain ⟨z, z0, z1, hz⟩ := hc j hj
  exact ⟨z, z0, z1, (hb.cell (p := ⟨b, off + j, none⟩) hlt).trans hz⟩
/-- What both lists together count. -/
theorem join_facts (a b : List P5) (h : (ofS (a ++ b)).2 = true) : (ofS a).2 = true ∧ (ofS b).2 = true ∧ (ofS (a ++ b)).1.refs.length = 64 ∧ (ofS (a ++ b)).1.last.length = 64 ∧ (ofS a).1.refs.length = 64 ∧ (ofS a).1.last.length = 64 ∧ (ofS b).1.refs.length = 64 ∧ (ofS b).1.last.length = 64 ∧
    ∀ k, k < 64 → (ofS (a ++ b)).1.refs.getD k 0 = (ofS a).1.refs.getD k 0 + (ofS b).1.refs.getD k 0 ∧ (ofS (a ++ b)).1.last.getD k 0 = max ((ofS a).1.last.getD k 0) ((ofS b).1.last.getD k 0) ∧ 0 ≤ (ofS a).1.refs.getD k 0 ∧ (ofS a).1.refs.getD k 0 ≤ 900 ∧ 0 ≤ (ofS b).1.refs.getD k 0 ∧ (ofS b).1.refs.getD k 0 ≤ 900 := by
  have hf : fineB (a ++ b) = true := by
    unfold ofS at h
    split at h
    · assumption
    · cases h
  have h1 := fine_left hf
  have h2 := fine_right hf
  have v := of_valid hf
  have v1 := of_valid h1
  have v2 := of_valid h2
  rw [ofS_yes hf, ofS_yes h1, ofS_yes h2]
  refine ⟨rfl, rfl, v.1, v.2.1, v1.1, v1.2.1, v2.1, v2.2.1, fun k hk => ?_⟩
  have len : ∀ {ps : List P5}, fineB ps = true → (ofU ps).length = 64 := fun {ps} h => by
    have := (Few.of (Nat.le_refl ps.length) h).len
    rwa [List.take_length] at this
  have at_ : ∀ {ps : List P5}, fineB ps = true → (spOf (ofU ps)).refs.getD k 0 = cnt ps (k : Int) ∧ (spOf (ofU ps)).last.getD k 0 = mx ps (k : Int) := fun {ps} h => by
    obtain ⟨e1, e2, e⟩ := spOf_at (len h) hk
    rw [use_all h] at e
    rw [List.getD_eq_getElem?_getD, List.getD_eq_getElem?_getD, List.getElem?_eq_getElem e1, List.getElem?_eq_getElem e2]
    exact ⟨(congrArg Prod.fst e).symm, (congrArg Prod.snd e).symm⟩
  simp only [(at_ hf).1, (at_ hf).2, (at_ h1).1, (at_ h1).2, (at_ h2).1, (at_ h2).2]
  rw [cnt_app, mx_app]
  have := cnt_nonneg a (k : Int)
  have := cnt_nonneg b (k : Int)
  have := cnt_le_mx h1 (k : Int)
  have := cnt_le_mx h2 (k : Int)
  have := mx_le (fine_ok h1) (k : Int)
  have := mx_le (fine_ok h2) (k : Int)
  exact ⟨rfl, rfl, by omega, by omega, by omega, by omega⟩
theorem Lies.intD {w : World} {A : Option Addr} {xs : List Int} (h : Lies w A (intCells xs)) (k : Nat) (hk : k < xs.length) : ∃ b off, A = some ⟨b, off, none⟩ ∧ b < w.heap.size ∧ w.cell? ⟨b, off + k, none⟩ = some (.int .i64 (xs.getD k 0)) := by
  obtain ⟨b, off, e, hlt, hc⟩ := h.int k hk
  exact ⟨b, off, e, hlt, by rw [hc, List.getD_eq_getElem?_getD, List.getElem?_eq_getElem hk]; rfl⟩

def KJ (h7 h9 h11 m3 m4 m5 m6 m1 m2 s3 s4 s5 s6 s1 s2 c3 e3 c4 e4 c6 e6 k : Nat) (xa ya xb yb xs ym : Int) (W : World) : Prop :=
  W.cell? ⟨h7, 0, none⟩ = some (.slice (some ⟨m3, s3, none⟩) 64 c3) ∧ W.cell? ⟨h7, 1, none⟩ = some (.slice (some ⟨m4, s4, none⟩) 64 e3) ∧ W.cell? ⟨h9, 0, none⟩ = some (.slice (some ⟨m5, s5, none⟩) 64 c4) ∧ W.cell? ⟨h9, 1, none⟩ = some (.slice (some ⟨m6, s6, none⟩) 64 e4) ∧ W.cell? ⟨h11, 0, none⟩ = some (.slice (some ⟨m1, s1, none⟩) 64 c6) ∧ W.cell? ⟨h11, 1, none⟩ = some (.slice (some ⟨m2, s2, none⟩) 64 e6) ∧
  W.cell? ⟨m3, s3 + k, none⟩ = some (.int .i64 xa) ∧ W.cell? ⟨m4, s4 + k, none⟩ = some (.int .i64 ya) ∧ W.cell? ⟨m5, s5 + k, none⟩ = some (.int .i64 xb) ∧ W.cell? ⟨m6, s6 + k, none⟩ = some (.int .i64 yb) ∧ W.cell? ⟨m1, s1 + k, none⟩ = some (.int .i64 xs) ∧ W.cell? ⟨m2, s2 + k, none⟩ = some (.int .i64 ym)

set_option maxRecDepth 100000 in
set_option maxHeartbeats 8000000 in
theorem walk_pjoin (A B : Option Addr) (nb cap nc cbp : Nat) (w : World) (hnb : nb ≤ cap) (hnc : nc ≤ cbp) (hA : BytesAt w A nb) (hB : BytesAt w B nc) : Calls Try.prog 18 #[.slice A nb cap, .slice B nc cbp] w fun r w' => r = .returned (.bool true) ∧ Below w.heap.size w w' := by
  have hDA := draw_of A nb cap w hnb hA
  have hDB := fun W (hW : Below w.heap.size w W) => draw_of B nc cbp W hnc (hB.below hW)
  by_cases hbig : (1048576 : Int) < (nb : Int)
  · go_enter Try.func18, Try.ntmps18
    go_wp2_with fail
    go_ret
    exact ⟨rfl, Below.refl _ _⟩
  by_cases hbig2 : (1048576 : Int) < (nc : Int)
  · go_enter Try.func18, Try.ntmps18
    go_wp2_with fail
    go_ret
    exact ⟨rfl, Below.refl _ _⟩
  clear hA hB hnb hnc
  obtain ⟨i0, hi, hz0, hz1, hz2⟩ := info_parts Try.info65
  go_enter Try.func18, Try.ntmps18
  go_wp2_with (go_at_call 52; refine hDA.mono ?_; rintro r w1 ⟨a, ga, ca, rfl, hla, hoa, BB⟩; refine Hid.out ?_)
  refine Lib.hid ?_
  have hpa := PtrsAt.of_own hoa
  have K := hDB _ BB
  go_wp2_with (go_at_call 52; refine K.mono ?_; rintro r w2 ⟨b, gb, cb, rfl, hlb, hob, hb2⟩; refine Hid.out ?_)
  refine Lib.hid ?_
  replace hpa := hpa.below hb2
  have hpb := PtrsAt.of_own hob
  replace BB := bel_then BB hb2
  have hda : a.length ≤ 1048576 := by omega
  have hdb : b.length ≤ 1048576 := by omega
  have hdz : (a ++ b).length ≤ 1048576 := by rw [List.length_append]; omega
  have hIa := fun W hW => impl_of (some ⟨ga, 0, none⟩) ca a W hda hW
  have hIb := fun W hW => impl_of (some ⟨gb, 0, none⟩) cb b W hdb hW
  have hIz := fun A c W hW => impl_of A c (a ++ b) W hdz hW
  have hSz := fun A c W hW => spec_of A c (a ++ b) W hdz hW
  have hDn := of_len (a ++ b)
  have hJ := join_facts a b
  clear hDA hDB K hoa hob hb2 hbig hbig2
  obtain ⟨DA, hDA⟩ : ∃ D, D = (ofS a).1 := ⟨_, rfl⟩
  obtain ⟨pa, hpA⟩ : ∃ b, b = (ofS a).2 := ⟨_, rfl⟩
  obtain ⟨DB, hDB⟩ : ∃ D, D = (ofS b).1 := ⟨_, rfl⟩
  obtain ⟨pb, hpB⟩ : ∃ p, p = (ofS b).2 := ⟨_, rfl⟩
  obtain ⟨D, hD⟩ : ∃ D, D = (ofS (a ++ b)).1 := ⟨_, rfl⟩
  obtain ⟨pz, hpZ⟩ : ∃ p, p = (ofS (a ++ b)).2 := ⟨_, rfl⟩
  simp only [← hDA, ← hpA] at hIa hJ
  simp only [← hDB, ← hpB] at hIb hJ
  simp only [← hD, ← hpZ] at hIz hSz hDn hJ
  have HJ := Lib.hid hJ
  clear hDA hpA hDB hpB hD hpZ hJ
  obtain ⟨hD1, hD2⟩ := hDn
  have hlab : (flat (a ++ b)) = flat a ++ flat b := flat_app a b
  have HLAB := Lib.hid hlab
  have HLZ : Hid ((a ++ b).length = a.length + b.length) := Lib.hid (List.length_append)
  obtain ⟨z, hz⟩ : ∃ z, z = a ++ b := ⟨_, rfl⟩
  rw [← hz] at hIz hSz hdz HLAB HLZ
  clear hz hlab
  have L := hIa _ hpa.arg
  go_wp2_with (go_at_call 41; refine L.mono ?_; rintro r w3 ⟨A3, c3, E3, e3, rfl, o3, hb3⟩; refine Hid.out ?_)
  refine Lib.hid ?_
  have bl : Below w3.heap.size w3 (w3.alloc (.cells #[.slice A3 DA.refs.length c3, .slice E3 DA.last.length e3] 24)) := (Below.refl _ _).alloc (Nat.le_refl _) _
  have b7 := B2.new w3 24 (.slice A3 DA.refs.length c3) (.slice E3 DA.last.length e3)
  have hx := o3.lies.below bl
  replace hpa := hpa.below hb3
  replace hpb := hpb.below hb3
  replace BB := bel_then BB hb3
  replace hpa := hpa.below bl
  replace hpb := hpb.below bl
  replace BB := bel_then BB bl
  clear L hIa o3 hb3 bl
  have L := hIb _ hpb.arg
  go_wp2_with (go_at_call 41; refine L.mono ?_; rintro r w4 ⟨A4, c4, E4, e4, rfl, o4, hb4⟩; refine Hid.out ?_)
  refine Lib.hid ?_
  have bl : Below w4.heap.size w4 (w4.alloc (.cells #[.slice A4 DB.refs.length c4, .slice E4 DB.last.length e4] 24)) := (Below.refl _ _).alloc (Nat.le_refl _) _
  have b9 := B2.new w4 24 (.slice A4 DB.refs.length c4) (.slice E4 DB.last.length e4)
  have hy := o4.lies.below bl
  replace hpa := hpa.below hb4
  replace hpb := hpb.below hb4
  replace b7 := b7.below hb4
  replace hx := hx.below hb4
  replace BB := bel_then BB hb4
  replace hpa := hpa.below bl
  replace hpb := hpb.below bl
  replace b7 := b7.below bl
  replace hx := hx.below bl
  replace BB := bel_then BB bl
  clear L hIb o4 hb4 bl
  have oe := World.ownsRow_made (e := 65) (base := (w4.alloc (.cells #[.slice A4 DB.refs.length c4, .slice E4 DB.last.length e4] 24)).heap.size) (w4.alloc (.cells #[.slice A4 DB.refs.length c4, .slice E4 DB.last.length e4] 24)) (size := 5) #[] 0 (Nat.le_refl _) (by decide) rfl
  rw [World.size_alloc] at oe
  have bl : Below (w4.alloc (.cells #[.slice A4 DB.refs.length c4, .slice E4 DB.last.length e4] 24)).heap.size (w4.alloc (.cells #[.slice A4 DB.refs.length c4, .slice E4 DB.last.length e4] 24)) ((w4.alloc (.cells #[.slice A4 DB.refs.length c4, .slice E4 DB.last.length e4] 24)).alloc (.cells #[] 65)) := (Below.refl _ _).alloc (Nat.le_refl _) _
  go_wp2_with (at_builtin; refine wpList_append_own_at _ rfl _ _ 47 rfl (w4.heap.size + 1) 65 i0 (.agg #[.int .i64 0, .int .i64 0, .int .i64 0, .int .i64 0, .int .i64 0]) 5 40 Try.underlying47 hi hz0 hz1 hz2 rfl (by decide) _ _ _ rfl oe ⟨ga, 0, none⟩ a.length ca (flat a) rfl (by rw [flat_len]; omega) (hpa.below bl).news (flat_one a) (by unfold maxLen; omega) (by omega) (by simp) ?_; intro v1 u1 own1 gr1 nil1 _; refine Hid.out ?_)
  refine Lib.hid ?_
  obtain ⟨g1, cc1, rfl⟩ : ∃ g cap, v1 = .slice (some ⟨g, 0, none⟩) (0 + a.length) cap := by
    rcases own1.2 with ⟨h1, _⟩ | ⟨g, cap, _, rfl, _⟩
    · cases (nil1.1 h1).1
    · exact ⟨g, cap, rfl⟩
  have bu1 : Below (w4.alloc (.cells #[.slice A4 DB.refs.length c4, .slice E4 DB.last.length e4] 24)).heap.size (w4.alloc (.cells #[.slice A4 DB.refs.length c4, .slice E4 DB.last.length e4] 24)) u1 := bl.grown gr1 bl.size (fun k e => by rw [World.size_alloc]; exact (oe.lt k e).1)
  clear oe bl gr1 nil1
  go_wp2_with (at_builtin; refine wpList_append_own_at _ rfl _ _ 47 rfl (w4.heap.size + 1) 65 i0 (.agg #[.int .i64 0, .int .i64 0, .int .i64 0, .int .i64 0, .int .i64 0]) 5 40 Try.underlying47 hi hz0 hz1 hz2 rfl (by decide) _ _ _ rfl own1 ⟨gb, 0, none⟩ b.length cb (flat b) rfl (by rw [flat_len]; omega) (hpb.below bu1).news (flat_one b) (by unfold maxLen; omega) (by omega) (by have := bu1.size; rw [World.size_alloc] at this; exact this) ?_; intro v2 u2 own2 gr2 nil2 _; refine Hid.out ?_)
  refine Lib.hid ?_
  obtain ⟨g2, cc2, rfl⟩ : ∃ g cap, v2 = .slice (some ⟨g, 0, none⟩) (0 + a.length + b.length) cap := by
    rcases own2.2 with ⟨h1, _⟩ | ⟨g, cap, _, rfl, _⟩
    · cases (nil2.1 h1).1
    · exact ⟨g, cap, rfl⟩
  have bu2 : Below (w4.alloc (.cells #[.slice A4 DB.refs.length c4, .slice E4 DB.last.length e4] 24)).heap.size (w4.alloc (.cells #[.slice A4 DB.refs.length c4, .slice E4 DB.last.length e4] 24)) u2 := bu1.grown gr2 bu1.size (fun k e => by rw [World.size_alloc]; exact (own1.lt k e).1)
  have hn0 : 0 + a.length + b.length = z.length := by rw [HLZ.out]; omega
  have hlz : (z.length : Nat) = a.length + b.length := HLZ.out
  have own3 : u2.ownsRow (w4.heap.size + 1) 65 5 (.slice (some ⟨g2, 0, none⟩) z.length cc2) z.length (flat z) := by
    rw [HLAB.out, ← hn0]
    simpa using own2
  have L := hIz _ cc2 _ (PtrsAt.of_own own3).arg
  have HN := Lib.hid hn0
  have hn1 : 0 + a.length + b.length = z.length := hn0
  clear hlz hn0
  replace hpa := hpa.below bu2
  replace hpb := hpb.below bu2
  replace b7 := b7.below bu2
  replace hx := hx.below bu2
  replace b9 := b9.below bu2
  replace hy := hy.below bu2
  replace BB := bel_then BB bu2
  clear own1 gr2 nil2 bu1 bu2 own2 own3
  try simp only [Nat.zero_add]
  try simp only [Nat.zero_add] at hn1
  try rw [hn1]
  clear hn1
  go_wp2_with (go_at_call 41; refine L.mono ?_; rintro r w6 ⟨A6, c6, E6, e6, rfl, o6, hb6⟩; refine Hid.out ?_)
  refine Lib.hid ?_
  have bl : Below w6.heap.size w6 (w6.alloc (.cells #[.slice A6 D.refs.length c6, .slice E6 D.last.length e6] 24)) := (Below.refl _ _).alloc (Nat.le_refl _) _
  have b11 := B2.new w6 24 (.slice A6 D.refs.length c6) (.slice E6 D.last.length e6)
  have hzz := o6.lies.below bl
  replace hpa := hpa.below hb6
  replace hpb := hpb.below hb6
  replace b7 := b7.below hb6
  replace hx := hx.below hb6
  replace b9 := b9.below hb6
  replace hy := hy.below hb6
  replace BB := bel_then BB hb6
  replace hpa := hpa.below bl
  replace hpb := hpb.below bl
  replace b7 := b7.below bl
  replace hx := hx.below bl
  replace b9 := b9.below bl
  replace hy := hy.below bl
  replace BB := bel_then BB bl
  clear L hIz o6 hb6 bl
  have oe := World.ownsRow_made (e := 65) (base := (w6.alloc (.cells #[.slice A6 D.refs.length c6, .slice E6 D.last.length e6] 24)).heap.size) (w6.alloc (.cells #[.slice A6 D.refs.length c6, .slice E6 D.last.length e6] 24)) (size := 5) #[] 0 (Nat.le_refl _) (by decide) rfl
  rw [World.size_alloc] at oe
  have bl : Below (w6.alloc (.cells #[.slice A6 D.refs.length c6, .slice E6 D.last.length e6] 24)).heap.size (w6.alloc (.cells #[.slice A6 D.refs.length c6, .slice E6 D.last.length e6] 24)) ((w6.alloc (.cells #[.slice A6 D.refs.length c6, .slice E6 D.last.length e6] 24)).alloc (.cells #[] 65)) := (Below.refl _ _).alloc (Nat.le_refl _) _
  go_wp2_with (at_builtin; refine wpList_append_own_at _ rfl _ _ 47 rfl (w6.heap.size + 1) 65 i0 (.agg #[.int .i64 0, .int .i64 0, .int .i64 0, .int .i64 0, .int .i64 0]) 5 40 Try.underlying47 hi hz0 hz1 hz2 rfl (by decide) _ _ _ rfl oe ⟨ga, 0, none⟩ a.length ca (flat a) rfl (by rw [flat_len]; omega) (hpa.below bl).news (flat_one a) (by unfold maxLen; omega) (by omega) (by simp) ?_; intro v1 u1 own1 gr1 nil1 _; refine Hid.out ?_)
  refine Lib.hid ?_
  obtain ⟨g1, cc1, rfl⟩ : ∃ g cap, v1 = .slice (some ⟨g, 0, none⟩) (0 + a.length) cap := by
    rcases own1.2 with ⟨h1, _⟩ | ⟨g, cap, _, rfl, _⟩
    · cases (nil1.1 h1).1
    · exact ⟨g, cap, rfl⟩
  have bu1 : Below (w6.alloc (.cells #[.slice A6 D.refs.length c6, .slice E6 D.last.length e6] 24)).heap.size (w6.alloc (.cells #[.slice A6 D.refs.length c6, .slice E6 D.last.length e6] 24)) u1 := bl.grown gr1 bl.size (fun k e => by rw [World.size_alloc]; exact (oe.lt k e).1)
  clear oe bl gr1 nil1
  go_wp2_with (at_builtin; refine wpList_append_own_at _ rfl _ _ 47 rfl (w6.heap.size + 1) 65 i0 (.agg #[.int .i64 0, .int .i64 0, .int .i64 0, .int .i64 0, .int .i64 0]) 5 40 Try.underlying47 hi hz0 hz1 hz2 rfl (by decide) _ _ _ rfl own1 ⟨gb, 0, none⟩ b.length cb (flat b) rfl (by rw [flat_len]; omega) (hpb.below bu1).news (flat_one b) (by unfold maxLen; omega) (by omega) (by have := bu1.size; rw [World.size_alloc] at this; exact this) ?_; intro v2 u2 own2 gr2 nil2 _; refine Hid.out ?_)
  refine Lib.hid ?_
  obtain ⟨g2, cc2, rfl⟩ : ∃ g cap, v2 = .slice (some ⟨g, 0, none⟩) (0 + a.length + b.length) cap := by
    rcases own2.2 with ⟨h1, _⟩ | ⟨g, cap, _, rfl, _⟩
    · cases (nil2.1 h1).1
    · exact ⟨g, cap, rfl⟩
  have bu2 : Below (w6.alloc (.cells #[.slice A6 D.refs.length c6, .slice E6 D.last.length e6] 24)).heap.size (w6.alloc (.cells #[.slice A6 D.refs.length c6, .slice E6 D.last.length e6] 24)) u2 := bu1.grown gr2 bu1.size (fun k e => by rw [World.size_alloc]; exact (own1.lt k e).1)
  have hn0 : 0 + a.length + b.length = z.length := by rw [HLZ.out]; omega
  have hlz : (z.length : Nat) = a.length + b.length := HLZ.out
  have own3 : u2.ownsRow (w6.heap.size + 1) 65 5 (.slice (some ⟨g2, 0, none⟩) z.length cc2) z.length (flat z) := by
    rw [HLAB.out, ← hn0]
    simpa using own2
  have L := hSz _ cc2 _ (PtrsAt.of_own own3).arg
  have HN := Lib.hid hn0
  have hn1 : 0 + a.length + b.length = z.length := hn0
  clear hlz hn0
  replace hpa := hpa.below bu2
  replace hpb := hpb.below bu2
  replace b7 := b7.below bu2
  replace hx := hx.below bu2
  replace b9 := b9.below bu2
  replace hy := hy.below bu2
  replace b11 := b11.below bu2
  replace hzz := hzz.below bu2
  replace BB := bel_then BB bu2
  clear own1 gr2 nil2 bu1 bu2 own2 own3
  try simp only [Nat.zero_add]
  try simp only [Nat.zero_add] at hn1
  try rw [hn1]
  clear hn1
  go_wp2_with (go_at_call 39; refine L.mono ?_; rintro r w8 ⟨A8, c8, E8, e8, rfl, o8, hb8⟩; refine Hid.out ?_)
  refine Lib.hid ?_
  have bl : Below w8.heap.size w8 (w8.alloc (.cells #[.slice A8 D.refs.length c8, .slice E8 D.last.length e8] 24)) := (Below.refl _ _).alloc (Nat.le_refl _) _
  have b13 := B2.new w8 24 (.slice A8 D.refs.length c8) (.slice E8 D.last.length e8)
  have hw := o8.lies.below bl
  replace hpa := hpa.below hb8
  replace hpb := hpb.below hb8
  replace b7 := b7.below hb8
  replace hx := hx.below hb8
  replace b9 := b9.below hb8
  replace hy := hy.below hb8
  replace b11 := b11.below hb8
  replace hzz := hzz.below hb8
  replace BB := bel_then BB hb8
  replace hpa := hpa.below bl
  replace hpb := hpb.below bl
  replace b7 := b7.below bl
  replace hx := hx.below bl
  replace b9 := b9.below bl
  replace hy := hy.below bl
  replace b11 := b11.below bl
  replace hzz := hzz.below bl
  replace BB := bel_then BB bl
  clear L hSz o8 hb8 bl hpa hpb
  have hpp : (pz != pz) = false := by simp
  have hpq : (pz == pz) = true := by simp
  have K := pf_space A6 E6 A8 E8 c6 e6 c8 e8 D _ hD1 hD2 hzz hw
  obtain ⟨⟨x0, x1⟩, _⟩ := b11.cells
  obtain ⟨⟨y0, y1⟩, _⟩ := b13.cells
  go_wp2_with (go_at_call 44; refine K.mono ?_; rintro r w9 ⟨rfl, hb9⟩; refine Hid.out ?_)
  refine Lib.hid ?_
  clear K x0 x1 y0 y1
  replace b7 := b7.below hb9
  replace hx := hx.below hb9
  replace b9 := b9.below hb9
  replace hy := hy.below hb9
  replace b11 := b11.below hb9
  replace hzz := hzz.below hb9
  replace b13 := b13.below hb9
  replace hw := hw.below hb9
  replace BB := bel_then BB hb9
  clear hb9
  cases pz with
  | false =>
    have K := pf_space A6 E6 A8 E8 c6 e6 c8 e8 D _ hD1 hD2 hzz hw
    obtain ⟨⟨x0, x1⟩, _⟩ := b11.cells
    obtain ⟨⟨y0, y1⟩, _⟩ := b13.cells
    go_wp2_with (go_at_call 44; refine K.mono ?_; rintro r w10 ⟨rfl, hb10⟩)
    go_ret
    exact ⟨rfl, bel_then BB hb10⟩
  | true =>
    obtain ⟨rfl, rfl, lz1, lz2, la1, la2, lb1, lb2, hall⟩ := HJ.out rfl
    have HALL := Lib.hid hall
    have LZ1 := Lib.hid lz1
    have LZ2 := Lib.hid lz2
    have LA1 := Lib.hid la1
    have LA2 := Lib.hid la2
    have LB1 := Lib.hid lb1
    have LB2 := Lib.hid lb2
    rw [lz1, lz2] at b11
    rw [la1, la2] at b7
    rw [lb1, lb2] at b9
    clear hw b13 hall hpp hpq HJ lz1 lz2 la1 la2 lb1 lb2 hD1 hD2
    go_wp2_with fail
    simp only [LZ1.out, LZ2.out, LA1.out, LA2.out, LB1.out, LB2.out]
    go_loopw [15] (fun i wr => ∃ k : Nat, k ≤ 64 ∧ i = .int .i64 k ∧ B2 wr w3.heap.size 24 (.slice A3 64 c3) (.slice E3 64 e3) ∧ B2 wr w4.heap.size 24 (.slice A4 64 c4) (.slice E4 64 e4) ∧ B2 wr w6.heap.size 24 (.slice A6 64 c6) (.slice E6 64 e6) ∧ SpAt wr A3 E3 DA ∧ SpAt wr A4 E4 DB ∧ SpAt wr A6 E6 D ∧ Below w.heap.size w wr) (fun i _ => 64 - (intOf i).toNat)
    case atStart => exact ⟨0, Nat.zero_le _, rfl, b7, b9, b11, hx, hy, hzz, BB⟩
    case round =>
      clear b7 b9 b11 hx hy hzz BB
      obtain ⟨k, hk, rfl, b7, b9, b11, hx, hy, hzz, BB⟩ := hrel
      by_cases hlt : k < 64
      · obtain ⟨q1, q2, q3, q4, q5, q6⟩ := HALL.out k hlt
        obtain ⟨m1, s1, rfl, t1, u1⟩ := hzz.1.intD k (by rw [LZ1.out]; exact hlt)
        obtain ⟨m2, s2, rfl, t2, u2⟩ := hzz.2.intD k (by rw [LZ2.out]; exact hlt)
        obtain ⟨m3, s3, rfl, t3, u3⟩ := hx.1.intD k (by rw [LA1.out]; exact hlt)
        obtain ⟨m4, s4, rfl, t4, u4⟩ := hx.2.intD k (by rw [LA2.out]; exact hlt)
        obtain ⟨m5, s5, rfl, t5, u5⟩ := hy.1.intD k (by rw [LB1.out]; exact hlt)
        obtain ⟨m6, s6, rfl, t6, u6⟩ := hy.2.intD k (by rw [LB2.out]; exact hlt)
        rw [q1] at u1
        rw [q2] at u2
        obtain ⟨xa, hxa⟩ : ∃ x, x = DA.refs.getD k 0 := ⟨_, rfl⟩
        obtain ⟨xb, hxb⟩ : ∃ x, x = DB.refs.getD k 0 := ⟨_, rfl⟩
        obtain ⟨ya, hya⟩ : ∃ x, x = DA.last.getD k 0 := ⟨_, rfl⟩
        obtain ⟨yb, hyb⟩ : ∃ x, x = DB.last.getD k 0 := ⟨_, rfl⟩
        rw [← hxa, ← hxb] at u1
        rw [← hya, ← hyb] at u2
        rw [← hxa] at u3 q3 q4
        rw [← hxb] at u5 q5 q6
        rw [← hya] at u4
        rw [← hyb] at u6
        clear hxa hxb hya hyb q1 q2
        obtain ⟨xs, hxs⟩ : ∃ x, x = xa + xb := ⟨_, rfl⟩
        obtain ⟨ym, hym⟩ : ∃ x, x = max ya yb := ⟨_, rfl⟩
        have hwr : IntKind.i64.wrap (xa + xb) = xs := by rw [hxs]; exact IntWalk.i64_in _ (by omega)
        have hmx : ∀ ts t W, (Builtin.max_ ts t #[.int .i64 ya, .int .i64 yb]).run Try.prog W = .ok (.int .i64 ym) W := fun ts t W => by
          rw [hym, run_max2]
        rw [← hxs] at u1
        rw [← hym] at u2
        have h1 : (xs != xs) = false := by simp
        have h2 : (ym != ym) = false := by simp
        have h3 : decide (xs = xs) = true := by simp
        have hk64 : (k : Int) < 64 := by omega
        clear hxs hym
        obtain ⟨⟨v7, w7'⟩, _, _⟩ := b7.cells
        obtain ⟨⟨v9, w9'⟩, _, _⟩ := b9.cells
        obtain ⟨⟨v11, w11'⟩, _, _⟩ := b11.cells
        go_wp2_with fail
        have K0 : KJ w3.heap.size w4.heap.size w6.heap.size m3 m4 m5 m6 m1 m2 s3 s4 s5 s6 s1 s2 c3 e3 c4 e4 c6 e6 k xa ya xb yb xs ym wr.drew := ⟨v7, w7', v9, w9', v11, w11', u3, u4, u5, u6, u1, u2⟩
        go_region_held3 (fun W => W.cell? ⟨w3.heap.size, 0, none⟩ = some (.slice (some ⟨m3, s3, none⟩) 64 c3) ∧ W.cell? ⟨w3.heap.size, 1, none⟩ = some (.slice (some ⟨m4, s4, none⟩) 64 e3) ∧ W.cell? ⟨w4.heap.size, 0, none⟩ = some (.slice (some ⟨m5, s5, none⟩) 64 c4) ∧ W.cell? ⟨w4.heap.size, 1, none⟩ = some (.slice (some ⟨m6, s6, none⟩) 64 e4) ∧ W.cell? ⟨w6.heap.size, 0, none⟩ = some (.slice (some ⟨m1, s1, none⟩) 64 c6) ∧ W.cell? ⟨w6.heap.size, 1, none⟩ = some (.slice (some ⟨m2, s2, none⟩) 64 e6) ∧
            W.cell? ⟨m3, s3 + k, none⟩ = some (.int .i64 xa) ∧ W.cell? ⟨m4, s4 + k, none⟩ = some (.int .i64 ya) ∧ W.cell? ⟨m5, s5 + k, none⟩ = some (.int .i64 xb) ∧ W.cell? ⟨m6, s6 + k, none⟩ = some (.int .i64 yb) ∧ W.cell? ⟨m1, s1 + k, none⟩ = some (.int .i64 xs) ∧ W.cell? ⟨m2, s2 + k, none⟩ = some (.int .i64 ym))
          ((show KJ w3.heap.size w4.heap.size w6.heap.size m3 m4 m5 m6 m1 m2 s3 s4 s5 s6 s1 s2 c3 e3 c4 e4 c6 e6 k xa ya xb yb xs ym _; with_reducible exact K0))
          (fail)
        go_wp2_with fail
        go_roundw
        case rel => exact ⟨k + 1, by omega, by go_num, b7, b9, b11, hx, hy, hzz, BB.drew⟩
        case measure => simp [intOf]; omega
      · go_wp2_with fail
        go_ret
        exact ⟨rfl, BB⟩
end Go.Proofs.Ytlmemjfinpccoaa
