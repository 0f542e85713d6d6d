/-
  A set of disks behind a power failure, as the program says.
-/
import Derived.Test.YtndckncoipkhaaaRMn
import Derived.Test.YtndckncoipkhaaaCrI
namespace Go.Proofs.Ytndckncoipkhaaa
open Go.RowKit

set_option maxRecDepth 100000 in
set_option maxHeartbeats 4000000 in
theorem crash1 (a b c : Nat) (A : Option Addr) (n cc : Nat) (M T : Option Addr) (mc tc : Nat) (ms ts : List Int) (ps : List RD) (j : Nat) (w : World) (ha : w.cell? ⟨a, 0, none⟩ = some (.slice A n cc)) (hal : a < w.heap.size) (hb : w.cell? ⟨b, 0, none⟩ = some (.slice M ms.length mc)) (hbl : b < w.heap.size) (hc : w.cell? ⟨c, 0, none⟩ = some (.slice T ts.length tc)) (hcl : c < w.heap.size)
    (hn : n = ps.length) (hj : j < ps.length) (hjm : j < ms.length) (hjt : j < ts.length) (hn2 : ps.length ≤ 1048576) (hml : ms.length ≤ 1048576) (htl : ts.length ≤ 1048576) (hf : ∀ p ∈ ps, Bulk p.d) (hA : RAt w A ps) (hM : Lies w M (intCells ms)) (hT : Lies w T (intCells ts)) (hmb : ms[j] ≤ 9223372036854775807) :
    Calls Try.prog 70 #[.int .i64 (j : Int), .pointer (some ⟨a, 0, none⟩), .pointer (some ⟨b, 0, none⟩), .pointer (some ⟨c, 0, none⟩)] w (DPost (crashD ps[j].d ms[j] ts[j]) w) := by
  have bl : Below w.heap.size w (w.alloc (.cells #[.slice none 0 0, .slice none 0 0, .bool false] 60)) := bel_new (Below.refl _ _) _
  have b0 := Bx.new w 60 (.slice none 0 0) (.slice none 0 0) (.bool false)
  obtain ⟨bk, off, rfl, hlb, z0, z1, z2, hd⟩ := (hA.below bl).cell j hj
  obtain ⟨bm, om, rfl, hbm, zm⟩ := (hM.below bl).int j hjm
  obtain ⟨bt, ot, rfl, hbt, zt⟩ := (hT.below bl).int j hjt
  have hfp := hf ps[j] (List.getElem_mem hj)
  have hjn : (j : Int) < (n : Int) := by omega
  have hjmi : (j : Int) < (ms.length : Int) := by omega
  have hjti : (j : Int) < (ts.length : Int) := by omega
  have ha2 := (bl.cell (p := ⟨a, 0, none⟩) hal).trans ha
  have hb2 := (bl.cell (p := ⟨b, 0, none⟩) hbl).trans hb
  have hc2 := (bl.cell (p := ⟨c, 0, none⟩) hcl).trans hc
  have hI := fun W hW => impl_crash ps[j].a ps[j].b ps[j].c ps[j].e ps[j].d ms[j] ts[j] W hfp (hd.below (w' := W) hW) hmb
  obtain ⟨P, hP⟩ : ∃ P, P = ps[j] := ⟨_, rfl⟩
  obtain ⟨mask, hmask⟩ : ∃ mask, mask = ms[j] := ⟨_, rfl⟩
  obtain ⟨tear, htear⟩ : ∃ tear, tear = ts[j] := ⟨_, rfl⟩
  simp only [← hP, ← hmask, ← htear] at z0 z1 z2 hI zm zt ⊢
  obtain ⟨D, hD⟩ : ∃ D, D = crashD P.d mask tear := ⟨_, rfl⟩
  simp only [← hD] at hI ⊢
  have hnb : n ≤ 1048576 := by omega
  clear hP hmask htear hmb hD hfp hd hA hM hT hf hj hn hn2 ha hb hc
  have hlt := b0.lt
  have hws := bl.size
  go_enter Try.func70, Try.ntmps70
  go_wp2_with fail
  have hS := hI (w.alloc (.cells #[.slice none 0 0, .slice none 0 0, .bool false] 60)).drew ((Below.refl _ _).drew)
  generalize hWW : w.alloc (.cells #[.slice none 0 0, .slice none 0 0, .bool false] 60) = W at *
  clear hWW hI
  obtain ⟨⟨y0, y1, y2⟩, f0, f1, f2⟩ := b0.cells
  go_region_law (go_simp; go_at_call 71; refine hS.mono ?_; rintro r w2 ⟨A', c', B', e', rfl, hv, hb2⟩; obtain ⟨⟨y0', y1', y2'⟩, f0', f1', f2'⟩ := (Bx.below (W := W.drew) b0 hb2).cells)
  all_goals
    go_wp2_with fail
    exact bodyPost_ret (v := .agg #[.slice A' D.cells.length c', .slice B' D.waits.length e', .bool D.gone]) (by simp [results, Try.f70, go_sem, y0', y1', y2']) rfl ⟨A', c', B', e', rfl, (hv.box hlt _ _ _).base hws, bel_box (bel_then bl.drew hb2) (Nat.le_refl _) _ _ _⟩
end Go.Proofs.Ytndckncoipkhaaa
