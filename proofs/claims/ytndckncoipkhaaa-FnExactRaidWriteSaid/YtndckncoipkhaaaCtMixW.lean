/-
  The program mixes two texts as the lists say.
-/
import Derived.Test.YtndckncoipkhaaaCtMixI
namespace Go.Proofs.Ytndckncoipkhaaa.Cut
open Go.RowKit

theorem made_bytes (n : Nat) : (madeCells (Value.cells (.int .u8 0)) (n * 1)).toList = cellsOf (List.replicate n 0) := by
  apply List.ext_getElem
  · simp [madeCells, cellsOf]
  · intro i h1 h2
    simp [madeCells, Value.cells, Nat.mod_one, cellsOf]
/-- copy from a text, as a step. -/
theorem wpList_copy_text {w : World} {ops : Array Oper} {rest : List Oper} {o : Oper} {a : Act} {Q : Exit → Act → World → Prop} (hgd : o.guard = none) (d s : Operand)
    (ho : o.op = .call { callee := .builtin .copy, args := #[d, s], argTypes := #[100, 9] }) (v : Value) (t : ByteArray) (hd : a.eval d = v) (hs : a.eval s = .string t) (r : Value) (w' : World)
    (hr : ∀ ty, (Builtin.copy_ #[100, 9] ty #[v, .string t]).run Try.prog w = .ok r w') (h : wpList Try.prog ops Q rest (a.put o.dst r) w') : wpList Try.prog ops Q (o :: rest) a w :=
  wpList_plain hgd fun _ hK => by
    have hr' := hr o.type
    unfold Oper.wp execOp
    simp only [ho, resolve, invoke, builtin, Sem.run_bind, Sem.run_pure, Result.andThen_ok, List.map_toArray, List.map_cons, List.map_nil, hd, hs, hr']
    exact hK _ _ h

set_option maxRecDepth 100000 in
set_option maxHeartbeats 2000000 in
theorem impl_mixed (a b : ByteArray) (n : Nat) (w : World) (hn : n ≤ 128) (ha : a.size ≤ maxLen) (hb : b.size ≤ maxLen) :
    Calls Try.prog 118 #[.string a, .string b, .int .i64 (n : Int)] w fun r w' => r = .returned (.string (strOf (mixL a.data.toList b.data.toList n))) ∧ Below w.heap.size w w' := by
  obtain ⟨i0, hi, hz0, hz1, hz2⟩ := info_parts Try.info5
  obtain ⟨l, hl⟩ : ∃ l, l = a.data.toList := ⟨_, rfl⟩
  obtain ⟨m, hm⟩ : ∃ l, l = b.data.toList := ⟨_, rfl⟩
  have hln : l.length = a.size := by rw [hl, Array.length_toList]; rfl
  have hmn : m.length = b.size := by rw [hm, Array.length_toList]; rfl
  obtain ⟨q, hq⟩ : ∃ q, q = min n b.size := ⟨_, rfl⟩
  have hqn : q ≤ n := by omega
  have hqb : q ≤ b.size := by omega
  have hall : stepL l m n q = mixL l m n := by rw [hq, ← hmn]; exact stepL_all l m n
  rw [← hl, ← hm]
  have HL := Lib.hid hl
  have HN := Lib.hid hln
  have HM := Lib.hid hm
  have HMN := Lib.hid hmn
  have HALL := Lib.hid hall
  have HQ := Lib.hid hq
  unfold maxLen at ha hb
  clear hl hln hm hmn hall hq
  go_enter Try.func118, Try.ntmps118
  go_wp2_with (refine wpList_make_full _ rfl _ _ 100 rfl w.heap.size 5 i0 (.int .u8 0) 1 Try.underlying100 hi hz0 hz1 _ _ _ _ n rfl rfl rfl rfl (by rw [hz2]; omega) (by unfold maxLen; omega) (Nat.le_refl _) ?_; intro w1 hown hgrow; rw [made_bytes] at hown; refine Hid.out ?_)
  refine Lib.hid ?_
  have bb : Below w.heap.size w w1 := (Below.refl _ _).grown hgrow (Nat.le_refl _) (fun k e => by cases e)
  obtain ⟨w2, hcp, ho2, hg2⟩ := own_copy hown a
  have b2 : Below w.heap.size w w2 := bb.grown hg2 (by have := bb.size; omega) (fun k e => by cases e; exact Nat.le_refl _)
  rw [← HL.out, ← HN.out, stepL_zero l m n _ rfl] at ho2
  clear hown hgrow bb hg2
  go_wp2_with (refine wpList_copy_text rfl (.tmp 11) (.tmp 12) rfl (.slice (some ⟨w.heap.size, 0, none⟩) n n) a rfl rfl _ _ hcp ?_; refine Hid.out ?_)
  refine Lib.hid ?_
  clear hcp hqn hqb
  by_cases hcase : b.size < n
  · have hc1 : (b.size : Int) < (n : Int) := by omega
    go_wp2_with fail
    go_loopw [18] (fun i wr => ∃ k : Nat, k ≤ b.size ∧ i = .int .i64 (k : Int) ∧ wr.ownsRow w.heap.size 5 1 (.slice (some ⟨w.heap.size, 0, none⟩) n n) n (cellsOf (stepL l m n k)) ∧ Below w.heap.size w wr) (fun i _ => b.size - (intOf i).toNat)
    case atStart => exact ⟨0, Nat.zero_le _, rfl, ho2, b2⟩
    case round =>
      clear ho2 b2
      obtain ⟨k, hk, rfl, ho, hbw⟩ := hrel
      by_cases hlt : k < b.size
      · have hkn : k < n := by omega
        have hkb : k < b.size := by omega
        have hkn' : (k : Int) < (n : Int) := by omega
        have hkb' : (k : Int) < (b.size : Int) := by omega
        have hlen := ho.1
        have hck : wr.cell? ⟨w.heap.size, k, none⟩ = some (.int .u8 ((l.getD k 0).toNat : Int)) := by
          rw [ho.cellAt k (by omega)]
          have e := stepL_at l m n k k hkn
          rw [if_neg (by omega)] at e
          unfold cellsOf
          rw [List.getElem?_map, e]
          rfl
        have hfk := ho.frozenAt k
        have hbk : b[k] = m.getD k 0 := by
          rw [at_getD m k (by rw [HMN.out]; exact hkb)]
          simp only [HM.out]
          rfl
        have hx := xor_u8 (l.getD k 0) b[k]
        have hxe : l.getD k 0 ^^^ b[k] = l.getD k 0 ^^^ m.getD k 0 := by rw [hbk]
        rw [hxe] at hx
        have hst := (ho.stored k (.int .u8 ((l.getD k 0 ^^^ m.getD k 0).toNat : Int))).1
        rw [stepL_set l m n k hkn] at hst
        obtain ⟨c, hc⟩ : ∃ c, c = l.getD k 0 ^^^ m.getD k 0 := ⟨_, rfl⟩
        obtain ⟨y, hy⟩ : ∃ y, y = l.getD k 0 := ⟨_, rfl⟩
        rw [← hc, ← hy] at hx
        rw [← hc] at hst
        rw [← hy] at hck
        have B1 : Below w.heap.size w (wr.setCell ⟨w.heap.size, k, none⟩ (.int .u8 (c.toNat : Int))) := hbw.setCell (p := ⟨w.heap.size, k, none⟩) (Nat.le_refl _) _
        clear hc hy hlen hbk hxe ho hbw
        go_wp2_with fail
        go_region_with (fail)
        all_goals
          go_wp2_with fail
          go_roundw
          case rel => first | exact ⟨k + 1, by omega, by go_num, hst.drew, B1.drew⟩ | exact ⟨k + 1, by omega, by go_num, hst, B1⟩
          case measure => simp [intOf]; omega
      · have hke : k = b.size := by omega
        have hqe : q = b.size := by have := HQ.out; omega
        have hcv := conv_own ho
        have hfin : stepL l m n k = mixL l m n := by rw [hke]; have e := HALL.out; rw [hqe] at e; exact e
        rw [hfin] at hcv
        clear hke hqe hfin
        go_wp2_with fail
        go_ret
        exact ⟨rfl, hbw⟩
  · have hc1 : ¬ (b.size : Int) < (n : Int) := by omega
    go_wp2_with fail
    go_loopw [18] (fun i wr => ∃ k : Nat, k ≤ n ∧ i = .int .i64 (k : Int) ∧ wr.ownsRow w.heap.size 5 1 (.slice (some ⟨w.heap.size, 0, none⟩) n n) n (cellsOf (stepL l m n k)) ∧ Below w.heap.size w wr) (fun i _ => n - (intOf i).toNat)
    case atStart => exact ⟨0, Nat.zero_le _, rfl, ho2, b2⟩
    case round =>
      clear ho2 b2
      obtain ⟨k, hk, rfl, ho, hbw⟩ := hrel
      by_cases hlt : k < n
      · have hkn : k < n := by omega
        have hkb : k < b.size := by omega
        have hkn' : (k : Int) < (n : Int) := by omega
        have hkb' : (k : Int) < (b.size : Int) := by omega
        have hlen := ho.1
        have hck : wr.cell? ⟨w.heap.size, k, none⟩ = some (.int .u8 ((l.getD k 0).toNat : Int)) := by
          rw [ho.cellAt k (by omega)]
          have e := stepL_at l m n k k hkn
          rw [if_neg (by omega)] at e
          unfold cellsOf
          rw [List.getElem?_map, e]
          rfl
        have hfk := ho.frozenAt k
        have hbk : b[k] = m.getD k 0 := by
          rw [at_getD m k (by rw [HMN.out]; exact hkb)]
          simp only [HM.out]
          rfl
        have hx := xor_u8 (l.getD k 0) b[k]
        have hxe : l.getD k 0 ^^^ b[k] = l.getD k 0 ^^^ m.getD k 0 := by rw [hbk]
        rw [hxe] at hx
        have hst := (ho.stored k (.int .u8 ((l.getD k 0 ^^^ m.getD k 0).toNat : Int))).1
        rw [stepL_set l m n k hkn] at hst
        obtain ⟨c, hc⟩ : ∃ c, c = l.getD k 0 ^^^ m.getD k 0 := ⟨_, rfl⟩
        obtain ⟨y, hy⟩ : ∃ y, y = l.getD k 0 := ⟨_, rfl⟩
        rw [← hc, ← hy] at hx
        rw [← hc] at hst
        rw [← hy] at hck
        have B1 : Below w.heap.size w (wr.setCell ⟨w.heap.size, k, none⟩ (.int .u8 (c.toNat : Int))) := hbw.setCell (p := ⟨w.heap.size, k, none⟩) (Nat.le_refl _) _
        clear hc hy hlen hbk hxe ho hbw
        go_wp2_with fail
        go_region_with (fail)
        all_goals
          go_wp2_with fail
          go_roundw
          case rel => first | exact ⟨k + 1, by omega, by go_num, hst.drew, B1.drew⟩ | exact ⟨k + 1, by omega, by go_num, hst, B1⟩
          case measure => simp [intOf]; omega
      · have hke : k = n := by omega
        have hqe : q = n := by have := HQ.out; omega
        have hcv := conv_own ho
        have hfin : stepL l m n k = mixL l m n := by rw [hke]; have e := HALL.out; rw [hqe] at e; exact e
        rw [hfin] at hcv
        clear hke hqe hfin
        go_wp2_with fail
        go_ret
        exact ⟨rfl, hbw⟩
end Go.Proofs.Ytndckncoipkhaaa.Cut
