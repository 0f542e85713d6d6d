/-
  One of a plant's places.
-/
import Derived.Test.YtjmfefaoenmppaaGreatDoorKI
namespace Go.Proofs.YtjmfefaoenmppaaGreatDoor
open Go.RowKit

theorem extract_five (ps : List P5) (n : Nat) (hn : n < ps.length) {a b c d e : Int} (hp : ps[n] = ⟨a, b, c, d, e⟩) : List.take 5 (List.drop (n * 5) (flat ps)) = [.int .i64 a, .int .i64 b, .int .i64 c, .int .i64 d, .int .i64 e] := by
  have h : flat ps = flat (ps.take n) ++ (P5.cells ps[n] ++ flat (ps.drop (n + 1))) := by
    have e : ps = ps.take n ++ (ps[n] :: ps.drop (n + 1)) := by rw [← List.drop_eq_getElem_cons hn, List.take_append_drop]
    have e2 := congrArg flat e
    rw [e2]
    unfold flat
    rw [List.flatMap_append, List.flatMap_cons]
  have hl : (flat (ps.take n)).length = n * 5 := by rw [flat_len, List.length_take]; omega
  rw [h, ← hl, List.drop_left, hp]
  rfl
set_option maxHeartbeats 1000000 in
theorem run_index80 (w : World) (ps : List P5) (h16 : ps.length = 16) (n : Nat) (hn : n < 16) {a b c d e : Int} (hp : ps[n] = ⟨a, b, c, d, e⟩) :
    (Instr.index 80 (.agg (flat ps).toArray) (.int .i64 (n : Int))).run Tryz.prog w = .ok (.agg #[.int .i64 a, .int .i64 b, .int .i64 c, .int .i64 d, .int .i64 e]) w := by
  have h := extract_five ps n (by omega) hp
  have u80 := Tryz.underlying80
  have z40 := Tryz.sizeOf40
  have a40 := Tryz.isAgg40
  unfold Instr.index
  have h0 : (0 : Int) ≤ (n : Int) := by omega
  have h1 : (n : Int) < 16 := by omega
  simp [go_sem, asIntOf, z40, h0, part, a40, h, hn]
end Go.Proofs.YtjmfefaoenmppaaGreatDoor
