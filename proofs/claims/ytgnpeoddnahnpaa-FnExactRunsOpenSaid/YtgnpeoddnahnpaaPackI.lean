/-
  impl.RunsPack answers the packed text at every text shorter than 2^32 bytes.
-/
import Derived.Test.YtgnpeoddnahnpaaPackS
import Derived.RangeFuncBox
import Derived.RangeFuncNested
import Derived.RangeFuncBound
import Derived.RangeFuncCalls
import Derived.RangeFuncLeaves
import Derived.Shelf.Abstract
import Derived.Shelf.RegionOpen
import Derived.OwnWalkIn
import Derived.TacticsInMore
import Derived.LoopNIn
import Derived.LoopIn
namespace Go.Proofs.Ytgnpeoddnahnpaa
open Go.RowKit Go.Shelf

attribute [local go_sem] Oper.semAt_some

abbrev Run := { x : UInt8 × Nat // 1 ≤ x.2 ∧ x.2 ≤ 9 }
theorem rl_cons (c : UInt8) (l : List UInt8) : 1 ≤ rl (c :: l) ∧ rl (c :: l) ≤ 9 :=
  ⟨(rl_bd (c :: l) (by simp)).1, (rl_bd (c :: l) (by simp)).2.1⟩
def runs : List UInt8 → List Run
  | [] => []
  | c :: l => ⟨(c, rl (c :: l)), rl_cons c l⟩ :: runs ((c :: l).drop (rl (c :: l)))
termination_by l => l.length
decreasing_by
  have := (rl_cons c l).1
  simp only [List.length_drop, List.length_cons]
  omega
theorem runs_nil : runs [] = [] := by rw [runs]
theorem runs_cons (c : UInt8) (l : List UInt8) : runs (c :: l) = ⟨(c, rl (c :: l)), rl_cons c l⟩ :: runs ((c :: l).drop (rl (c :: l))) := by rw [runs]
def packL (rs : List Run) : List UInt8 := rs.flatMap fun x => piece x.1.1 x.1.2
theorem packL_snoc (rs : List Run) (x : Run) : packL (rs ++ [x]) = packL rs ++ piece x.1.1 x.1.2 := by simp [packL]
theorem packL_runs (l : List UInt8) : packL (runs l) = pack l := by
  induction hn : l.length using Nat.strongRecOn generalizing l with
  | _ n ih =>
    cases l with
    | nil => rw [runs_nil, pack_nil]; rfl
    | cons c l =>
      have hb := (rl_cons c l).1
      rw [runs_cons, pack_run, ← ih ((c :: l).drop (rl (c :: l))).length (by simp only [List.length_drop, List.length_cons] at hn ⊢; omega) _ rfl]
      rfl
theorem packL_len (rs : List Run) : (packL rs).length ≤ 27 * rs.length := by
  induction rs with
  | nil => simp [packL]
  | cons x rs ih =>
    have h := piece_len x.1.1 x.1.2 x.2.1
    have h9 := x.2.2
    have e : packL (x :: rs) = piece x.1.1 x.1.2 ++ packL rs := by simp [packL]
    rw [e, List.length_append, List.length_cons]
    omega

def encR (x : Run) : Array Value := #[.int .u8 (x.1.1.toNat : Int), .int .i64 (x.1.2 : Int)]
def KeepsBox (B : Nat) (v : Value) (W W' : World) : Prop := Boxed W B 9 v → Boxed W' B 9 v

theorem ext_list (s : ByteArray) (k : Nat) : (s.extract k s.size).data.toList = s.data.toList.drop k := by
  have h : (s.extract k s.size).data = s.data.extract k s.size := by simp
  rw [h, Array.toList_extract]
  simp only [List.extract_eq_take_drop]
  exact List.take_of_length_le (by simp)
theorem ext_size (s : ByteArray) (k : Nat) : (s.extract k s.size).size = s.size - k := by
  have h := congrArg List.length (ext_list s k)
  rw [List.length_drop, Array.length_toList, Array.length_toList] at h
  exact h
theorem run_len_at (s : ByteArray) (k : Nat) (hs : s.size ≤ 4294967296) (hk : k < s.size) (w : World) :
    Calls Try.prog 26 #[.string (s.extract k s.size)] w fun e w' => e = .returned (.int .i64 (rl (s.data.toList.drop k))) ∧ ∃ q, w' = w.drewN q := by
  have h := run_len (s.extract k s.size) w (by rw [ext_size]; unfold maxLen; omega) (by rw [ext_size]; omega)
  rw [ext_list] at h
  exact h

theorem own_form {W : World} {base n : Nat} {v : Value} {xs : List Value} (h : W.ownsRow base 5 1 v n xs) (hn : 0 < n) : ∃ g cap, v = .slice (some ⟨g, 0, none⟩) n cap := by
  rcases h.2 with ⟨_, h0⟩ | ⟨g, cap, _, rfl, _⟩
  · omega
  · exact ⟨g, cap, rfl⟩
theorem store_back {W w1 : World} {n₀ B n m : Nat} {v v' : Value} {xs ys : List Value} (hv : Boxed W B 27 v) (hrow : W.ownsRow n₀ 5 1 v n xs) (hn₀ : n₀ ≤ W.heap.size) (hB : n₀ ≤ B)
    (R : w1.ownsRow n₀ 5 1 v' m ys) (hg : W.grownBy w1 v.ownBlock) :
    Boxed w1 B 27 v ∧ Boxed (w1.setCell ⟨B, 0, none⟩ v') B 27 v' ∧ (w1.setCell ⟨B, 0, none⟩ v').ownsRow n₀ 5 1 v' m ys ∧ KeepsOthers W (w1.setCell ⟨B, 0, none⟩ v') ∧ Below n₀ W (w1.setCell ⟨B, 0, none⟩ v') ∧
      ∀ Bs u, KeepsBox Bs u W (w1.setCell ⟨B, 0, none⟩ v') := by
  have hv1 : Boxed w1 B 27 v := hv.kept hg (hv.not_row (by decide) hrow)
  refine ⟨hv1, hv1.set v', R.kept (grownBy_setCell' w1 B v') (.inr (hv1.not_row (by decide) R).symm), ?_, ?_, ?_⟩
  · refine (KeepsOthers.of_grownBy hg fun j o ej hj => ?_).trans (KeepsOthers.setCell _ _ _)
    rcases hrow.2 with ⟨rfl, _⟩ | ⟨g, cap, cur, rfl, _, hgb, _⟩
    · simp [Value.ownBlock] at ej
    · obtain rfl : g = j := by simpa [Value.ownBlock] using ej
      rw [hgb] at hj; cases hj; rfl
  · exact ((Below.refl n₀ W).grown hg hn₀ (fun k e => (hrow.lt k e).1)).setCell (p := ⟨B, 0, none⟩) hB v'
  · intro Bs u hb
    have hne : some Bs ≠ some B := by
      intro e
      cases e
      have := (show W.heap[B]? = _ from hb).symm.trans hv
      simp at this
    exact (hb.kept hg (hb.not_row (by decide) hrow)).kept (grownBy_setCell' w1 B v') hne

theorem runs_of (n : Nat) (s : ByteArray) (w : World) :
    CallsIn Fence.wide n Try.prog 18 #[.string s] w fun e w' => e = .returned (.func (.func 25) #[] #[.pointer (some ⟨w.heap.size, 0, none⟩)]) ∧ w' = w.alloc (.cells #[.string s] 9) := by
  refine callsIn_of_wp Try.func18 rfl trivial ?_ rfl
  simp only [Try.ntmps18, List.size_toArray, List.length_cons, List.length_nil, Nat.reduceAdd, Nat.reduceSub, Array.replicate_succ, Array.replicate_zero, List.push_toArray, List.append_toArray, List.nil_append, List.cons_append]
  gi_wp2
  go_ret
  exact ⟨rfl, rfl⟩

set_option maxRecDepth 100000 in
set_option maxHeartbeats 1000000 in
theorem runs_in (n : Nat) (hn : 1 ≤ n) (l Bs : Nat) (s : ByteArray) (hs : s.size ≤ 4294967296) (J Jx : List Run → World → Prop) (B0 : Nat) (hJ : AbidesFrom B0 J)
    (hY : ∀ pre x W, J pre W → pre.length < s.size → YieldAt Fence.wide (n - 1) Try.prog l (encR x) W fun e W' =>
      (e = .returned (.bool true) ∧ J (pre ++ [x]) W' ∧ KeepsBox Bs (.string s) W W') ∨ (e = .returned (.bool false) ∧ Jx (pre ++ [x]) W'))
    (W : World) (hB : Boxed W Bs 9 (.string s)) (h0 : J [] W) :
    CallsIn Fence.wide n Try.prog 25 #[.func (.yield l) #[] #[], .pointer (some ⟨Bs, 0, none⟩)] W fun e W' => (∃ v, e = .returned v) ∧
      ((∃ ys, ys = runs s.data.toList ∧ J ys W') ∨ (∃ pre, pre <+: runs s.data.toList ∧ Jx pre W')) := by
  refine callsIn_of_wp Try.func25 rfl trivial ?_ rfl
  simp only [Try.ntmps25, List.size_toArray, List.length_cons, List.length_nil, Nat.reduceAdd, Nat.reduceSub, Array.replicate_succ, Array.replicate_zero, List.push_toArray, List.append_toArray, List.nil_append, List.cons_append]
  gi_wp2
  gi_loopw [3] (fun i wr => ∃ (k : Nat) (pre : List Run), k ≤ s.size ∧ i = .int .i64 k ∧ pre ++ runs (s.data.toList.drop k) = runs s.data.toList ∧ pre.length ≤ k ∧ Boxed wr Bs 9 (.string s) ∧ J pre wr)
    (fun i _ => s.size - (intOf i).toNat)
  case atStart => exact ⟨0, [], Nat.zero_le _, rfl, by simp, Nat.zero_le _, hB, h0⟩
  case round =>
    obtain ⟨k, pre, hk, rfl, hp, hpl, hbx, hJs⟩ := hrel
    have hcx := hbx.cell
    by_cases hlt : k < s.size
    · have hdk := drop_at s k hlt
      have hbd := rl_bd (s.data.toList.drop k) (by simp; omega)
      simp only [List.length_drop, Array.length_toList, ByteArray.size_data] at hbd
      obtain ⟨m, hm⟩ : ∃ m, m = rl (s.data.toList.drop k) := ⟨_, rfl⟩
      have hC : ∀ w, Calls Try.prog 26 #[.string (s.extract k s.size)] w fun e w' => e = .returned (.int .i64 m) ∧ ∃ q, w' = w.drewN q := by rw [hm]; exact run_len_at s k hs hlt
      rw [← hm] at hbd
      obtain ⟨hm1, hm9, hmk⟩ := hbd
      have hp' : (pre ++ [⟨(s[k], m), hm1, hm9⟩]) ++ runs (s.data.toList.drop (k + m)) = runs s.data.toList := by
        rw [← hp, ← List.drop_drop, List.append_assoc]
        congr 1
        rw [hdk] at hm ⊢
        subst hm
        rw [runs_cons]
        rfl
      have HP := Lib.hid hp'
      clear hp hp' hm hdk
      have hJq : ∀ q, J pre (wr.drewN q) := fun q => hJ _ _ _ none hJs ⟨rfl, rfl, rfl, Nat.le_refl _, fun _ _ _ => rfl⟩ (fun r e => by cases e)
      have hYq := fun q => hY _ ⟨(s[k], m), hm1, hm9⟩ (wr.drewN q) (hJq q) (by omega)
      gi_wp2_with (refine ⟨trivial, ?_⟩; gi_at_call 26; refine (callsIn_wide.2 (hC _)).mono ?_; rintro e w' ⟨rfl, q, rfl⟩; obtain ⟨fn, tmps, assign, body, hy, hR⟩ := hYq q; dsimp only [encR] at hy)
      refine hR.mono ?_
      rintro e W3 (⟨rfl, hJ3, hk3⟩ | ⟨rfl, hJx3⟩)
      · have hb3 : Boxed W3 Bs 9 (.string s) := hk3 hbx
        gi_wp2
        go_roundw
        case rel => exact ⟨k + m, _, by omega, by go_num, HP.out, by simp; omega, hb3, hJ3⟩
        case measure => simp [intOf]; omega
      · gi_wp2
        refine bodyPost_ret (results_none rfl _ _ _) rfl ?_
        exact ⟨⟨_, rfl⟩, .inr ⟨_, ⟨_, HP.out⟩, hJx3⟩⟩
    · have he : s.data.toList.drop k = [] := by simp; omega
      rw [he, runs_nil, List.append_nil] at hp
      subst hp
      gi_wp2
      go_end0
      exact ⟨⟨_, rfl⟩, .inl ⟨_, rfl, hJs⟩⟩


theorem runs_stops (n : Nat) (hn : 1 ≤ n) (Bs : Nat) (s : ByteArray) (hs : s.size ≤ 4294967296) (w : World) (hB : Boxed w Bs 9 (.string s)) :
    SeqStopsK Fence.wide n Try.prog 25 #[.pointer (some ⟨Bs, 0, none⟩)] encR (KeepsBox Bs (.string s)) (fun ys => ys = runs s.data.toList) (fun pre => pre <+: runs s.data.toList) s.size w := fun l J Jx W hW hJ _ hY h0 =>
  runs_in n hn l Bs s hs J Jx _ hJ hY W ((hW.block Bs hB.lt).trans hB) h0

set_option maxRecDepth 100000 in
set_option maxHeartbeats 2000000 in
theorem impl_pack (s : ByteArray) (w : World) (hs : s.size ≤ 4294967296) :
    Calls Try.prog 12 #[.string s] w fun e w' => e = .returned (.string (strOf (pack s.data.toList))) ∧ Below w.heap.size w w' := by
  refine (callsIn_wide (n := 5)).1 ?_
  obtain ⟨i0, hi, hz0, hz1, hz2⟩ := info_parts Try.info5
  refine callsIn_of_wp_marks Try.func12 rfl trivial ?_ rfl
  simp only [Try.ntmps12, List.size_toArray, List.length_cons, List.length_nil, Nat.reduceAdd, Nat.reduceSub, Array.replicate_succ, Array.replicate_zero, List.push_toArray, List.append_toArray, List.nil_append, List.cons_append]
  gi_wp2_with (refine ⟨trivial, ?_⟩; gi_at_call 18; refine (runs_of _ _ _).mono ?_; rintro e w' ⟨rfl, rfl⟩)
  have bO := Boxed.new (w.alloc (.cells #[] 5)) 27 (.slice (some ⟨w.heap.size, 0, none⟩) 0 0)
  have bS := Boxed.new ((w.alloc (.cells #[] 5)).alloc (.cells #[.slice (some ⟨w.heap.size, 0, none⟩) 0 0] 27)) 9 (.string s)
  simp only [World.size_alloc] at bO bS
  have hB0 : Below w.heap.size w (((w.alloc (.cells #[] 5)).alloc (.cells #[.slice (some ⟨w.heap.size, 0, none⟩) 0 0] 27)).alloc (.cells #[.string s] 9)) := (((Below.refl _ w).alloc (Nat.le_refl _) _).alloc (by simp) _).alloc (by simp; omega) _
  have hO0 := World.ownsRow_made (e := 5) (base := w.heap.size) w (size := 1) #[] 0 (Nat.le_refl _) (by decide) rfl
  refine wpIn_rangeFunc_ownG rfl (by omega) (gf := 25) (lb := #[.pointer (some ⟨w.heap.size + 1 + 1, 0, none⟩)]) rfl trivial (enters_of Try.func25 (by kernel_rfl) rfl)
    (runs_stops _ (by omega) (w.heap.size + 1 + 1) s hs _ bS) ?kt ?kb (Below.refl _ _) (fun _ => rfl)
    (fun pre W => (∃ v, Boxed W (w.heap.size + 1) 27 v ∧ W.ownsRow w.heap.size 5 1 v (packL pre).length (cellsOf (packL pre)) ∧ True) ∧ Below w.heap.size w W)
    (fun _ _ _ => False)
    (OwnFrom.and (Own.from (holdsRow_own w.heap.size (w.heap.size + 1) 27 5 1 (fun pre => (packL pre).length) (fun pre => cellsOf (packL pre)) (fun _ _ => True)) _) (ownFrom_below (Nat.le_refl _) (by simp; omega)))
    (fun _ _ _ _ _ hs _ _ => hs)
    ⟨⟨_, bO.alloc _, ((hO0.alloc _).alloc _), trivial⟩, hB0⟩
    (fun x => { tmps := #[.string s, undef, .string ⟨#[]⟩, .pointer (some ⟨w.heap.size + 1, 0, none⟩), .int .u8 (x.1.1.toNat : Int), .int .i64 (x.1.2 : Int), .slice (some ⟨w.heap.size, 0, none⟩) 0 0, .string s, .func (.func 25) #[] #[.pointer (some ⟨w.heap.size + 1 + 1, 0, none⟩)], .int .u8 (x.1.1.toNat : Int), .int .i64 (x.1.2 : Int), undef, undef, undef, undef, undef, undef, undef, undef, undef, undef, undef, undef, undef, undef, undef, undef, undef, undef, undef], defers := [] }) ?assign ?body ?done ?stop
  case kt => exact fun h k b => k (h b)
  case kb =>
    intro W l o o' _ hl ho _ hb
    refine hb.kept (grownBy_putObj' W l o') (fun e => ?_)
    cases e
    rw [show W.heap[_]? = _ from hb] at hl
    cases hl
    cases ho
  case assign =>
    intro l x W K hK
    dsimp only [encR]
    gi_wp2
    exact hK
  case body =>
    rintro l pre x W ⟨⟨v, hv, hrow, _⟩, hB⟩ hlt
    have hc := hv.cell
    have hpl := packL_len pre
    obtain ⟨⟨c, m⟩, hm1, hm9⟩ := x
    dsimp only at hm1 hm9 ⊢
    by_cases hy : 4 ≤ m ∨ c = 126
    · have hpc : piece c m = [126, UInt8.ofNat (48 + m), c] := by unfold piece; rw [if_pos hy]
      have HP := Lib.hid hpc
      have hyk : (4 ≤ m ∧ True) ∨ (¬ 4 ≤ m ∧ c = 126) := by
        by_cases h4 : 4 ≤ m
        · exact .inl ⟨h4, trivial⟩
        · exact .inr ⟨h4, hy.resolve_left h4⟩
      obtain ⟨o2, h2⟩ : ∃ o2, packL pre ++ [126, UInt8.ofNat (48 + m), c] = o2 := ⟨_, rfl⟩
      have hl2 : 0 < o2.length := by rw [← h2]; simp
      have H2 := Lib.hid h2
      clear hpc hy h2
      have hsz := hB.size
      rcases hyk with ⟨h4, _⟩ | ⟨h4, hq⟩
      · have h4' : (4 : Int) ≤ (m : Int) := by omega
        gi_wp2_with (gi_at_builtin; refine wpListIn_append_own _ rfl _ _ 27 rfl w.heap.size 5 i0 (.int .u8 0) 1 1 Try.underlying27 hi hz0 hz1 hz2 rfl (by decide) _ _ _ rfl (hrow.alloc _) ⟨W.heap.size, 0, none⟩ 3 3 _ rfl rfl (cell_three_new _ _ _ _ _) (by simp [Value.oneCell']) (by unfold maxLen; omega) (by omega) (by simp; omega) ?_; intro v' w1 hown' hgrow _; have hR := own_snoc hown' (m := [126, UInt8.ofNat (48 + m), c]) (pack_news m _ hm9) rfl; rw [H2.out] at hR; have hg := (World.grownBy_alloc W _ _).trans hgrow; clear hown' hgrow; obtain ⟨g', cap', rfl⟩ := own_form hR hl2; obtain ⟨hv1, hv2, hr2, hk2, hb2, hx2⟩ := store_back hv hrow hB.size (Nat.le_succ _) hR hg; have hc1 := hv1.cell; have hf1 := hv1.frozen)
        exact ⟨hk2.from _, hx2 _ _, ⟨_, hv2, by rw [packL_snoc, HP.out, H2.out]; exact hr2, trivial⟩, hB.trans hb2⟩
      · have h4' : ¬ (4 : Int) ≤ (m : Int) := by omega
        have hq' : ((c.toNat : Int) == 126) = true := by rw [hq]; rfl
        clear hq
        gi_wp2_with (gi_at_builtin; refine wpListIn_append_own _ rfl _ _ 27 rfl w.heap.size 5 i0 (.int .u8 0) 1 1 Try.underlying27 hi hz0 hz1 hz2 rfl (by decide) _ _ _ rfl (hrow.alloc _) ⟨W.heap.size, 0, none⟩ 3 3 _ rfl rfl (cell_three_new _ _ _ _ _) (by simp [Value.oneCell']) (by unfold maxLen; omega) (by omega) (by simp; omega) ?_; intro v' w1 hown' hgrow _; have hR := own_snoc hown' (m := [126, UInt8.ofNat (48 + m), c]) (pack_news m _ hm9) rfl; rw [H2.out] at hR; have hg := (World.grownBy_alloc W _ _).trans hgrow; clear hown' hgrow; obtain ⟨g', cap', rfl⟩ := own_form hR hl2; obtain ⟨hv1, hv2, hr2, hk2, hb2, hx2⟩ := store_back hv hrow hB.size (Nat.le_succ _) hR hg; have hc1 := hv1.cell; have hf1 := hv1.frozen)
        exact ⟨hk2.from _, hx2 _ _, ⟨_, hv2, by rw [packL_snoc, HP.out, H2.out]; exact hr2⟩, hB.trans hb2⟩
    · have hpc : piece c m = List.replicate m c := by unfold piece; rw [if_neg hy]
      have HP := Lib.hid hpc
      have h4 : ¬ (4 : Int) ≤ (m : Int) := by omega
      have hq : ((c.toNat : Int) == 126) = false := by
        simp only [beq_eq_false_iff_ne, ne_eq]
        intro h
        exact hy (.inr (UInt8.toNat_inj.1 (by have : c.toNat = 126 := by omega
                                              rw [this]; rfl)))
      have hC := append_run w.heap.size v (packL pre) c m W hm9 (by omega) hrow hB.size
      obtain ⟨o2, h2⟩ : ∃ o2, packL pre ++ List.replicate m c = o2 := ⟨_, rfl⟩
      have hl2 : 0 < o2.length := by rw [← h2]; simp; omega
      rw [h2] at hC
      have H2 := Lib.hid h2
      clear hpc hy h2
      gi_wp2_with (refine ⟨trivial, ?_⟩; gi_at_call 19; refine (CallsIn.inRound l (callsIn_wide.2 hC)).mono ?_; rintro e w1 ⟨v', rfl, hR, hM⟩; obtain ⟨g', cap', rfl⟩ := own_form hR hl2; obtain ⟨hv1, hv2, hr2, hk2, hb2, hx2⟩ := store_back hv hrow hB.size (Nat.le_succ _) hR hM.1; have hc1 := hv1.cell; have hf1 := hv1.frozen)
      exact ⟨hk2.from _, hx2 _ _, ⟨_, hv2, by rw [packL_snoc, HP.out, H2.out]; exact hr2, trivial⟩, hB.trans hb2⟩
  case done =>
    rintro D ys W hD rfl ⟨⟨v, hv, hrow, _⟩, hB⟩ hK
    have hc := hv.cell
    rw [packL_runs] at hrow
    have hcv := conv_own hrow
    gi_wp2
    refine ⟨by simp, .inl ⟨_, _, rfl, run_takeDeferred hK, ?_⟩⟩
    exact ⟨_, results_tmp rfl _ _ _, rfl, hB.trans (belowK_b (w := w) (Nat.le_refl _) W D _ _ (by simp at hD; omega) hK rfl rfl)⟩
  case stop =>
    rintro D c pre W _ _ h _
    exact h.elim

theorem grown_of {w w' : World} (h : Below w.heap.size w w') : w.grownBy w' none := ⟨h.os, h.tape, h.output, h.size, fun k hk _ => h.block k hk⟩

end Go.Proofs.Ytgnpeoddnahnpaa
