/-
  Sets of disks: a law's copy of one, whether two are equal, the marks of a law.
-/
import Derived.Test.YtndckncoipkhaaaRT
namespace Go.Proofs.Ytndckncoipkhaaa
open Go.RowKit

theorem ROwn.set {W : World} {base : Nat} {u : Value} {ps : List RD} (h : ROwn W base u ps) {p : Addr} (hp : p.block < base) (x : Value) : ROwn (W.setCell p x) base u ps :=
  ⟨own_set h.1 hp x, (h.2.onlyOut (lo := p.block) (hi := p.block + 1) (Only.of_grown (grown_set W p x) (fun k e => by cases e; omega)) (by omega)).top (by simp [World.setCell])⟩

set_option maxRecDepth 100000 in
set_option maxHeartbeats 2000000 in
theorem to_raid (A : Option Addr) (cap : Nat) (ps : List RD) (w : World) (hn : ps.length ≤ 1048576) (hf : ∀ p ∈ ps, Bulk p.d) (hA : RAt w A ps) :
    Calls Try.prog 18 #[.agg #[.slice A ps.length cap]] w (RPost (dks ps) w) := by
  have hT := fun W hW => to_disks A cap ps W hn hf (hA.below (W' := W) hW)
  clear hn hf hA
  go_enter Try.func18, Try.ntmps18
  go_wp2_with (go_at_call 45; refine (hT _ (bel_new (bel_new (bel_new (Below.refl _ _) _) _) _)).mono ?_; rintro r w2 ⟨qs, A2, c2, rfl, hq, ho, hb2⟩; have BB := bel_then (bel_new (bel_new (bel_new (Below.refl _ _) _) _) _) hb2; obtain ⟨hc, hf⟩ := bcell hb2; have s2 : w.heap.size + 1 + 1 + 1 ≤ w2.heap.size := (by have := hb2.size; simpa using this); have q0 : w.heap.size < w2.heap.size := (by omega); have q1 : w.heap.size + 1 < w2.heap.size := (by omega); have q2 : w.heap.size + 1 + 1 < w2.heap.size := (by omega))
  simp only [World.size_alloc] at ho
  refine bodyPost_ret (v := .agg #[.slice A2 qs.length c2]) (by simp [results, Try.f18, go_sem, *]) rfl ⟨qs, A2, c2, rfl, hq, ((ho.set (p := ⟨w.heap.size + 1 + 1, 0, none⟩) (Nat.lt_succ_self _) _).set (p := ⟨w.heap.size + 1, 0, none⟩) (by show w.heap.size + 1 < _; omega) _).base (by omega), ?_⟩
  exact (BB.setCell (p := ⟨w.heap.size + 1 + 1, 0, none⟩) (by show w.heap.size ≤ w.heap.size + 1 + 1; omega) _).setCell (p := ⟨w.heap.size + 1, 0, none⟩) (by show w.heap.size ≤ w.heap.size + 1; omega) _

/-- The cells of two disks, kept. -/
def TwoD (w : World) (g x h y : Nat) (P Q : RD) (W : World) : Prop :=
  W.cell? ⟨g, x, none⟩ = some (.slice P.a P.d.cells.length P.c) ∧ W.cell? ⟨g, x + 1, none⟩ = some (.slice P.b P.d.waits.length P.e) ∧ W.cell? ⟨g, x + 2, none⟩ = some (.bool P.d.gone) ∧ W.cell? ⟨h, y, none⟩ = some (.slice Q.a P.d.cells.length Q.c) ∧ W.cell? ⟨h, y + 1, none⟩ = some (.slice Q.b P.d.waits.length Q.e) ∧ W.cell? ⟨h, y + 2, none⟩ = some (.bool P.d.gone) ∧ g < W.heap.size ∧ h < W.heap.size ∧ Below w.heap.size w W
theorem TwoD.next {w W W' : World} {g x h y : Nat} {P Q : RD} (k : TwoD w g x h y P Q W) (hb : Below W.heap.size W W') : TwoD w g x h y P Q W' := by
  obtain ⟨a0, a1, a2, b0, b1, b2, hg, hh, hw⟩ := k
  exact ⟨(hb.cell (p := ⟨g, x, none⟩) hg).trans a0, (hb.cell (p := ⟨g, x + 1, none⟩) hg).trans a1, (hb.cell (p := ⟨g, x + 2, none⟩) hg).trans a2, (hb.cell (p := ⟨h, y, none⟩) hh).trans b0, (hb.cell (p := ⟨h, y + 1, none⟩) hh).trans b1, (hb.cell (p := ⟨h, y + 2, none⟩) hh).trans b2, Nat.lt_of_lt_of_le hg hb.size, Nat.lt_of_lt_of_le hh hb.size, bel_then hw hb⟩

set_option maxRecDepth 100000 in
set_option maxHeartbeats 4000000 in
theorem eq_disks (A B : Option Addr) (ca cb : Nat) (ps qs : List RD) (w : World) (hd : dks ps = dks qs) (hn : ps.length ≤ 1048576) (hf : ∀ p ∈ ps, Bulk p.d) (hA : RAt w A ps) (hB : RAt w B qs) :
    Calls Try.prog 40 #[.slice A ps.length ca, .slice B qs.length cb] w fun e w' => e = .returned (.bool true) ∧ Below w.heap.size w w' := by
  have hql : qs.length = ps.length := by rw [← dks_len, ← dks_len, hd]
  have hq0 : ((ps.length : Int) != (ps.length : Int)) = false := by simp
  rw [hql]
  have HQL := Lib.hid hql
  have HD := Lib.hid hd
  clear hql hd
  go_enter Try.func40, Try.ntmps40
  go_wp2
  go_loopw [5] (fun i wr => ∃ k : Nat, k ≤ ps.length ∧ i = .int .i64 k ∧ Below w.heap.size w wr) (fun i _ => ps.length - (intOf i).toNat)
  case atStart => exact ⟨0, Nat.zero_le _, rfl, Below.refl _ _⟩
  case round =>
    obtain ⟨k, hk, rfl, hb⟩ := hrel
    by_cases hlt : k < ps.length
    · obtain ⟨b1, o1, rfl, hl1, y0, y1, y2, hd1⟩ := (hA.below hb).cell k hlt
      obtain ⟨b2, o2, rfl, hl2, z0, z1, z2, hd2⟩ := (hB.below hb).cell k (by rw [HQL.out]; exact hlt)
      have hfp := hf ps[k] (List.getElem_mem hlt)
      have hdk : (qs[k]'(by rw [HQL.out]; exact hlt)).d = ps[k].d := by
        have h1 : (dks ps)[k]? = some ps[k].d := by simp [dks, hlt]
        have h2 : (dks qs)[k]? = some (qs[k]'(by rw [HQL.out]; exact hlt)).d := by simp [dks, HQL.out, hlt]
        rw [HD.out] at h1
        rw [h1] at h2
        exact (Option.some.inj h2).symm
      obtain ⟨P, hP⟩ : ∃ P, P = ps[k] := ⟨_, rfl⟩
      obtain ⟨Q, hQ⟩ : ∃ Q, Q = qs[k]'(by rw [HQL.out]; exact hlt) := ⟨_, rfl⟩
      rw [← hP] at y0 y1 y2 hd1 hfp hdk
      rw [← hQ] at z0 z1 z2 hd2 hdk
      rw [hdk] at z0 z1 z2 hd2
      have K0 : TwoD wr b1 (o1 + k * 3) b2 (o2 + k * 3) P Q wr.drew := ⟨y0, y1, y2, z0, z1, z2, hl1, hl2, (Below.refl _ _).drew⟩
      have hE := eq_disk P.a P.b Q.a Q.b P.c P.e Q.c Q.e P.d wr.drew hfp.cells hfp.waits hd1 hd2
      clear hP hQ hdk hd1 hd2 hfp hA hB
      go_wp2_with fail
      go_region_held3 (fun W => W.cell? ⟨b1, o1 + k * 3, none⟩ = some (.slice P.a P.d.cells.length P.c) ∧ W.cell? ⟨b1, o1 + k * 3 + 1, none⟩ = some (.slice P.b P.d.waits.length P.e) ∧ W.cell? ⟨b1, o1 + k * 3 + 2, none⟩ = some (.bool P.d.gone) ∧ W.cell? ⟨b2, o2 + k * 3, none⟩ = some (.slice Q.a P.d.cells.length Q.c) ∧ W.cell? ⟨b2, o2 + k * 3 + 1, none⟩ = some (.slice Q.b P.d.waits.length Q.e) ∧ W.cell? ⟨b2, o2 + k * 3 + 2, none⟩ = some (.bool P.d.gone) ∧ b1 < W.heap.size ∧ b2 < W.heap.size ∧ Below wr.heap.size wr W)
        ((show TwoD wr b1 (o1 + k * 3) b2 (o2 + k * 3) P Q _; with_reducible (first | exact K0 | exact hk2)))
        (first | (go_at_call 78; refine hE.mono ?_; rintro r w2 ⟨rfl, hb2⟩; have hk2 := K0.next hb2))
      have W2 : Below wr.heap.size wr w2 := hk2.2.2.2.2.2.2.2.2
      go_wp2_with fail
      go_roundw
      case rel => exact ⟨k + 1, by omega, by go_num, bel_then hb W2⟩
      case measure => simp [intOf]; omega
    · have hke : k = ps.length := by omega
      subst hke
      go_wp2
      go_ret
      exact ⟨rfl, hb⟩
set_option maxHeartbeats 1000000 in
theorem eq_raid (A B : Option Addr) (ca cb : Nat) (ps qs : List RD) (w : World) (hd : dks ps = dks qs) (hn : ps.length ≤ 1048576) (hf : ∀ p ∈ ps, Bulk p.d) (hA : RAt w A ps) (hB : RAt w B qs) :
    Calls Try.prog 13 #[.agg #[.slice A ps.length ca], .agg #[.slice B qs.length cb]] w fun e w' => e = .returned (.bool true) ∧ Below w.heap.size w w' := by
  have BB := bel_new (bel_new (Below.refl w.heap.size w) (.cells #[.slice A ps.length ca] 24)) (.cells #[.slice B qs.length cb] 24)
  have hE := eq_disks A B ca cb ps qs _ hd hn hf (hA.below BB) (hB.below BB)
  clear hn hf hA hB hd
  go_enter Try.func13, Try.ntmps13
  go_wp2_with (go_at_call 40; refine hE.mono ?_; rintro r w2 ⟨rfl, hb2⟩)
  go_ret
  exact ⟨rfl, bel_then BB hb2⟩
end Go.Proofs.Ytndckncoipkhaaa
