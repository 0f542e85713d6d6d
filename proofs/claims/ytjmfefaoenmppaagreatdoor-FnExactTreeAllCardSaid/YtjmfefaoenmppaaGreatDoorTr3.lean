/-
  All pointers of a tree, as the specification has them, if it is valid.
-/
import Derived.Test.YtjmfefaoenmppaaGreatDoorTr2
namespace Go.Proofs.YtjmfefaoenmppaaGreatDoor
open Go.RowKit

theorem brAll_few {f : P5 → Option Br} {n : Nat} : ∀ {qs : List P5} {M : Br}, (∀ q ∈ qs, ∀ L, f q = some L → L.length ≤ n) → brAll f qs = some M → M.length ≤ qs.length * n
  | [], M, _, h => by injection h with h; subst h; simp
  | q :: qs, M, hq, h => by
    rw [brAll] at h
    cases h1 : f q with
    | none => rw [h1, both_none] at h; cases h
    | some A =>
      cases h2 : brAll f qs with
      | none => rw [h2, both_none'] at h; cases h
      | some B =>
        rw [h1, h2, both_some] at h
        injection h with h
        subst h
        have e1 := hq q (by simp) A h1
        have e2 := brAll_few (fun x hx => hq x (by simp [hx])) h2
        rw [List.length_append, List.length_cons, Nat.succ_mul]
        omega
theorem br_few {s : St} (l : Nat) : ∀ {p : P5} {birth : Int} {L : Br}, br s l p birth = some L → L.length ≤ 5 ^ l := by
  induction l with
  | zero =>
    intro p birth L h
    rw [br_zero] at h
    split at h
    · injection h with h; subst h; simp
    · cases h
  | succ l ih =>
    intro p birth L h
    rw [br_succ] at h
    split at h
    · next hc =>
      obtain ⟨M, hM, rfl⟩ := Option.map_eq_some_iff.1 h
      have h1 := brAll_few (fun q _ A hA => ih hA) hM
      rw [fanB_len hc.2] at h1
      have h2 : 1 ≤ 5 ^ l := Nat.one_le_pow _ _ (by decide)
      rw [List.length_cons, Nat.pow_succ]
      omega
    · cases h
theorem plant_item {s : St} {t : Tr} {L : Br} (h : plantO s t = some L) : Item s (t.root, L) ∧ L.length ≤ 25 := by
  unfold plantO at h
  split at h
  · unfold plantT at h
    split at h
    · next hk hf =>
      cases hb : br s (depthOf t.many) t.root s.txg with
      | none => rw [hb] at h; cases h
      | some M =>
        rw [hb, Option.bind_some] at h
        split at h
        · injection h with h
          subst h
          have hfew := br_few _ hb
          rw [br_birth] at hb
          split at hb
          · next hx =>
            refine ⟨⟨hf.2.2, hx, depthOf t.many, depthOf_le _, hb⟩, ?_⟩
            have := depthOf_le t.many
            have h2 : 5 ^ depthOf t.many ≤ 25 := by rcases (show depthOf t.many = 0 ∨ depthOf t.many = 1 ∨ depthOf t.many = 2 by omega) with h | h | h <;> rw [h] <;> decide
            omega
          · cases hb
        · cases h
    · cases h
  · cases h
theorem allO_no {s : St} {t : Tr} (h : ¬ (okSt s = true ∧ okT s t = true)) : allO s t = none := by
  unfold allO
  cases hp : plantO s t with
  | none => rfl
  | some L => exact absurd ⟨(plant_leaves hp).1, (plant_leaves hp).2.1⟩ h
theorem allO_yes {s : St} {t : Tr} (h : okSt s = true ∧ okT s t = true) : ∃ L, plantO s t = some L ∧ allO s t = some (nh L) := by
  cases hp : plantO s t with
  | none => exact absurd h (plant_none hp)
  | some L => exact ⟨L, rfl, by unfold allO; rw [hp]; rfl⟩

set_option maxRecDepth 100000 in
set_option maxHeartbeats 8000000 in
theorem spec_treeall (x : SA) (s : St) (a b c d e dep many : Int) (w : World) (hs : SBulk s) (hA : StAt w x s) :
    Calls Tryz.prog 30 #[.agg #[.slice x.A s.rows.length x.a, .slice x.R s.sp.refs.length x.r, .slice x.L s.sp.last.length x.l, .int .i64 s.txg, .slice x.G s.gone.length x.g, .int .i64 s.keep, .slice x.D s.dead.length x.d, .bool s.same], .agg #[.int .i64 a, .int .i64 b, .int .i64 c, .int .i64 d, .int .i64 e, .int .i64 dep, .int .i64 many]] w (LsPost (allO s ⟨⟨a, b, c, d, e⟩, dep, many⟩) 40 w) := by
  have c0 := (B8.new w 38 (.slice x.A s.rows.length x.a) (.slice x.R s.sp.refs.length x.r) (.slice x.L s.sp.last.length x.l) (.int .i64 s.txg) (.slice x.G s.gone.length x.g) (.int .i64 s.keep) (.slice x.D s.dead.length x.d) (.bool s.same)).alloc (.cells #[.int .i64 a, .int .i64 b, .int .i64 c, .int .i64 d, .int .i64 e, .int .i64 dep, .int .i64 many] 42)
  have t0 := B7.new (w.alloc (.cells #[.slice x.A s.rows.length x.a, .slice x.R s.sp.refs.length x.r, .slice x.L s.sp.last.length x.l, .int .i64 s.txg, .slice x.G s.gone.length x.g, .int .i64 s.keep, .slice x.D s.dead.length x.d, .bool s.same] 38)) a b c d e dep many 42
  have BB : Below w.heap.size w ((w.alloc (.cells #[.slice x.A s.rows.length x.a, .slice x.R s.sp.refs.length x.r, .slice x.L s.sp.last.length x.l, .int .i64 s.txg, .slice x.G s.gone.length x.g, .int .i64 s.keep, .slice x.D s.dead.length x.d, .bool s.same] 38)).alloc (.cells #[.int .i64 a, .int .i64 b, .int .i64 c, .int .i64 d, .int .i64 e, .int .i64 dep, .int .i64 many] 42)) := bel_new (bel_new (Below.refl _ _) _) _
  rw [World.size_alloc] at t0
  have hK := spec_treeok x s a b c d e dep many _ hs (hA.below BB)
  obtain ⟨G, hG⟩ : ∃ G, G = allO s ⟨⟨a, b, c, d, e⟩, dep, many⟩ := ⟨_, rfl⟩
  have hno := @allO_no s ⟨⟨a, b, c, d, e⟩, dep, many⟩
  have hyes := fun h => @allO_yes s ⟨⟨a, b, c, d, e⟩, dep, many⟩ h
  rw [← hG] at hno hyes ⊢
  have hC := fun (hok : StOk s) (L : Br) (hI : Item s (⟨a, b, c, d, e⟩, L)) (hL : L.length ≤ 25) W (hW : Below w.heap.size w W) => spec_l8all x s a b c d e dep many L W hok hs.texts (hA.below hW) hI hL
  go_enter Tryz.func30, Tryz.ntmps30
  go_upto_region 1 with fail
  generalize hW0 : (w.alloc (.cells #[.slice x.A s.rows.length x.a, .slice x.R s.sp.refs.length x.r, .slice x.L s.sp.last.length x.l, .int .i64 s.txg, .slice x.G s.gone.length x.g, .int .i64 s.keep, .slice x.D s.dead.length x.d, .bool s.same] 38)).alloc (.cells #[.int .i64 a, .int .i64 b, .int .i64 c, .int .i64 d, .int .i64 e, .int .i64 dep, .int .i64 many] 42) = W0 at c0 t0 BB hK
  clear hW0 hG hA hs
  obtain ⟨x0, x1, x2, x3, x4, x5, x6, x7⟩ := c0.cells
  obtain ⟨y0, y1, y2, y3, y4, y5, y6⟩ := t0.cells
  by_cases hv : okSt s = true ∧ okT s ⟨⟨a, b, c, d, e⟩, dep, many⟩ = true
  · obtain ⟨L, hL, hGL⟩ := hyes hv
    obtain ⟨hI, h25⟩ := plant_item hL
    have hk1 := hv.1
    have hk2 := hv.2
    rw [hk1, hk2] at hK
    have hC1 := hC (of_decide_eq_true hk1) L hI h25
    unfold AlPost at hC1
    clear hno hyes hC hk1 hk2 hv hL hI
    go_wp2_with (first | (go_at_call 11; refine hK.mono ?_; rintro r w2 ⟨rfl, hb2⟩; have B2w := bel_then BB hb2; obtain ⟨x0, x1, x2, x3, x4, x5, x6, x7⟩ := (c0.below hb2).cells; obtain ⟨y0, y1, y2, y3, y4, y5, y6⟩ := (t0.below hb2).cells) | (go_at_call 66; refine (hC1 _ B2w).mono ?_; rintro r w3 ⟨hb3, A3, c3, rfl, hP⟩))
    go_ret2
    rw [hGL]
    exact ⟨bel_then B2w hb3, A3, c3, rfl, own_base hP B2w.size⟩
  · have HN := Lib.hid (hno hv)
    have hK2 : Calls Tryz.prog 11 #[.agg #[.slice x.A s.rows.length x.a, .slice x.R s.sp.refs.length x.r, .slice x.L s.sp.last.length x.l, .int .i64 s.txg, .slice x.G s.gone.length x.g, .int .i64 s.keep, .slice x.D s.dead.length x.d, .bool s.same], .agg #[.int .i64 a, .int .i64 b, .int .i64 c, .int .i64 d, .int .i64 e, .int .i64 dep, .int .i64 many]] W0 fun r w' => r = .returned (.bool false) ∧ Below W0.heap.size W0 w' := by
      have h0 : (okSt s && okT s ⟨⟨a, b, c, d, e⟩, dep, many⟩) = false := by
        cases h1 : okSt s with
        | false => rfl
        | true =>
          cases h2 : okT s ⟨⟨a, b, c, d, e⟩, dep, many⟩ with
          | false => rfl
          | true => exact absurd ⟨h1, h2⟩ hv
      rw [h0] at hK
      exact hK
    clear hno hyes hv hC hK
    go_wp2_with (go_at_call 11; refine hK2.mono ?_; rintro r w2 ⟨rfl, hb2⟩)
    go_ret2
    rw [HN.out]
    exact ⟨bel_new (bel_then BB hb2) _, _, _, rfl, own_base (World.ownsRow_made (e := 40) (base := w2.heap.size) w2 (size := 5) #[] 0 (Nat.le_refl _) (by decide) rfl) (bel_then BB hb2).size⟩
end Go.Proofs.YtjmfefaoenmppaaGreatDoor
