/-
  What a store's space is in the next group, as the program makes it.
-/
import Derived.Test.YtmnamclndpfjnaaNxP
import Derived.Test.YtmnamclndpfjnaaTak
import Derived.Test.YtmnamclndpfjnaaImA
import Derived.Test.YtmnamclndpfjnaaStM
namespace Go.Proofs.Ytmnamclndpfjnaa
open Go.RowKit

set_option maxRecDepth 100000 in
set_option maxHeartbeats 4000000 in
theorem impl_snext (x : SA) (s : St) (w : World) (hok : StOk s) (hL : s.gone.length ≤ 1048576) (hA : StAt w x s) :
    Calls Try.prog 69 #[(.agg #[.slice x.A s.rows.length x.a, .slice x.R s.sp.refs.length x.r, .slice x.L s.sp.last.length x.l, .int .i64 s.txg, .slice x.G s.gone.length x.g, .int .i64 s.keep, .slice x.D s.dead.length x.d, .bool s.same])] w (SPost (spOf (nextU (usOf s.sp) s.gone)) w) := by
  have b0 := (B8.new w 28 (.slice x.A s.rows.length x.a) (.slice x.R s.sp.refs.length x.r) (.slice x.L s.sp.last.length x.l) (.int .i64 s.txg) (.slice x.G s.gone.length x.g) (.int .i64 s.keep) (.slice x.D s.dead.length x.d) (.bool s.same)).alloc (.cells #[.slice none 0 0, .slice none 0 0] 25)
  have r0 := B2.new (w.alloc (.cells #[.slice x.A s.rows.length x.a, .slice x.R s.sp.refs.length x.r, .slice x.L s.sp.last.length x.l, .int .i64 s.txg, .slice x.G s.gone.length x.g, .int .i64 s.keep, .slice x.D s.dead.length x.d, .bool s.same] 28)) 25 (.slice none 0 0) (.slice none 0 0)
  have B0 := bel_new (bel_new (Below.refl w.heap.size w) (.cells #[.slice x.A s.rows.length x.a, .slice x.R s.sp.refs.length x.r, .slice x.L s.sp.last.length x.l, .int .i64 s.txg, .slice x.G s.gone.length x.g, .int .i64 s.keep, .slice x.D s.dead.length x.d, .bool s.same] 28)) (.cells #[.slice none 0 0, .slice none 0 0] 25)
  rw [World.size_alloc] at r0
  have hU := uses_yes x.R x.L x.r x.l s.sp _ hok.sp (hA.sp.below B0)
  have hG := hA.gone
  have hst := next_step hok
  have hcl := fun (b : Nat) (W : World) (hb : UMap W Try.prog 3 b (nextU (usOf s.sp) s.gone)) => impl_space b _ W hb
  obtain ⟨U, hUU⟩ : ∃ U, U = usOf s.sp := ⟨_, rfl⟩
  rw [← hUU] at hU hst ⊢
  simp only [← hUU] at hcl
  have HST := Lib.hid hst
  have HG := Lib.hid hG
  have hsz : ((w.alloc (.cells #[.slice x.A s.rows.length x.a, .slice x.R s.sp.refs.length x.r, .slice x.L s.sp.last.length x.l, .int .i64 s.txg, .slice x.G s.gone.length x.g, .int .i64 s.keep, .slice x.D s.dead.length x.d, .bool s.same] 28)).alloc (.cells #[.slice none 0 0, .slice none 0 0] 25)).heap.size = w.heap.size + 1 + 1 := by rw [World.size_alloc, World.size_alloc]
  clear hok hA hUU hst hG
  go_enter Try.func69, Try.ntmps69
  go_wp2_with (go_at_call 103; refine hU.mono ?_; rintro r w2 ⟨m, hm, rfl, M2, hb2⟩; refine Hid.out ?_)
  refine Lib.hid ?_
  rw [hsz] at hm
  have s2 := hb2.size
  rw [hsz] at s2
  have BB := bel_then B0 hb2
  have b2 := b0.below hb2
  have r2 := r0.below hb2
  obtain ⟨x0, x1, x2, x3, x4, x5, x6, x7⟩ := b2.cells
  clear hU B0 b0 r0 hb2 hsz
  go_wp2_with fail
  go_loopw [6, 16] (fun _ i wr => ∃ (k : Nat), k ≤ s.gone.length ∧ i = .int .i64 k ∧ UMap wr Try.prog 3 m (nextU U (s.gone.take k)) ∧ w2.grownBy wr (some m)) (fun _ i _ => s.gone.length - (intOf i).toNat)
  case atStart => exact ⟨0, Nat.zero_le _, rfl, by simpa [nextU_nil] using M2, World.grownBy.refl w2 (some m)⟩
  case round =>
    obtain ⟨k, hk, rfl, MU, GB⟩ := hrel
    clear M2
    by_cases hlt : k < s.gone.length
    · have hki : (k : Int) < (s.gone.length : Int) := by omega
      obtain ⟨a, b, cs, d, e, hp⟩ : ∃ a b cs d e, s.gone[k] = ⟨a, b, cs, d, e⟩ := ⟨_, _, _, _, _, rfl⟩
      have st := HST.out k hlt
      rw [hp] at st
      simp only at st
      obtain ⟨⟨u0, u1⟩, u2, u3, u4⟩ := st
      have htk : nextU U (s.gone.take (k + 1)) = giveU (nextU U (s.gone.take k)) a := by rw [List.take_succ_eq_append_getElem hlt, hp, nextU_snoc]
      have hg := fun W hW => give_map m (nextU U (s.gone.take k)) a W hW u0 u1 u2 u3 u4
      obtain ⟨V, hV⟩ : ∃ V, V = nextU U (s.gone.take k) := ⟨_, rfl⟩
      rw [← hV] at MU htk
      simp only [← hV] at hg
      have HTK := Lib.hid htk
      have HG2 := HG.out
      obtain ⟨bb, off, hxG, hlb, z0, z1, z2, z3, z4⟩ := ((HG2.below BB).grown GB (fun b o e => by
        obtain ⟨b', o', e', hlt', _⟩ := HG2 (by omega)
        rw [e] at e'
        injection e' with e'
        injection e' with e1
        omega)).five k hlt hp
      obtain ⟨xA, xa, xR, xr, xL, xl, xG, xg, xD, xd⟩ := x
      dsimp only at *
      subst hxG
      have hm2 := MU.lt
      clear hp htk hV u0 u1 u2 u3 u4 HG2
      obtain ⟨Wp, hWp⟩ : ∃ W, W = wr.alloc (.cells #[.int .i64 a, .int .i64 b, .int .i64 cs, .int .i64 d, .int .i64 e] 45) := ⟨_, rfl⟩
      have hL2 := hg _ (MU.below ((Below.refl _ wr).alloc (Nat.le_refl _) (.cells #[.int .i64 a, .int .i64 b, .int .i64 cs, .int .i64 d, .int .i64 e] 45)))
      clear hg
      go_wp2_with (go_at_call 104; refine hL2.mono ?_; rintro r w4 ⟨rfl, M4, G4⟩; refine Hid.out ?_)
      refine Lib.hid ?_
      have G5 := GB.trans ((World.grownBy_alloc wr (.cells #[.int .i64 a, .int .i64 b, .int .i64 cs, .int .i64 d, .int .i64 e] 45) (some m)).trans G4)
      go_wp2_with fail
      go_round
      · exact ⟨k + 1, by omega, by simp, by rw [HTK.out]; exact M4, G5⟩
      · show s.gone.length - ((k : Int) + 1).toNat < s.gone.length - (k : Int).toNat
        omega
    · have he : k = s.gone.length := by omega
      subst he
      have hki : ¬ (s.gone.length : Int) < (s.gone.length : Int) := by omega
      rw [List.take_length] at MU
      have hc := hcl m wr MU
      have r3 := r2.grown GB (by simp; omega)
      have B3 := BB.grown GB (by omega) (fun b e => by injection e with e; omega)
      clear r2 BB hcl HST
      go_wp2_with (go_at_call 78; refine hc.mono ?_; rintro r w4 ⟨A4, c4, B4, e4, rfl, ho, hb4⟩; refine Hid.out ?_)
      refine Lib.hid ?_
      have r4 := r3.below hb4
      have B4' := bel_then B3 hb4
      obtain ⟨⟨y0, y1⟩, f0, f1⟩ := r4.cells
      have s4 := B3.size
      have hl : w.heap.size + 1 < wr.heap.size := r3.lt
      clear r4 r3 hc MU GB
      go_wp2_with fail
      exact bodyPost_ret (v := .agg #[.slice A4 (spOf (nextU U s.gone)).refs.length c4, .slice B4 (spOf (nextU U s.gone)).last.length e4]) (by simp [results, Try.f69, go_sem, y0, y1]) rfl ⟨A4, c4, B4, e4, rfl, ((ho.set (p := ⟨w.heap.size + 1, 0, none⟩) hl _).set (p := ⟨w.heap.size + 1, 1, none⟩) hl _).base (by omega), (B4'.setCell (p := ⟨w.heap.size + 1, 0, none⟩) (Nat.le_succ _) _).setCell (p := ⟨w.heap.size + 1, 1, none⟩) (Nat.le_succ _) _⟩
end Go.Proofs.Ytmnamclndpfjnaa
