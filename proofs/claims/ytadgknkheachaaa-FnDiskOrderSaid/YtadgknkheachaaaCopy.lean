/-
  A law's copy of a disk.
-/
import Derived.Test.YtadgknkheachaaaSz
namespace Go.Proofs.Ytadgknkheachaaa
open Go.RowKit

theorem Try.info9 : (Try.prog.info? 9).map (fun i => (i.zero, i.size, i.bytes)) = some (some (.string ⟨#[]⟩), 1, 16) := by kernel_rfl
theorem Try.info58 : (Try.prog.info? 58).map (fun i => (i.zero, i.size, i.bytes)) = some (some (.agg #[.int .i64 0, .string ⟨#[]⟩]), 2, 24) := by kernel_rfl

theorem made_strs (n : Nat) : (madeCells (Value.cells (.string ⟨#[]⟩)) (n * 1)).toList = List.replicate n (Value.string ⟨#[]⟩) := by
  apply List.ext_getElem
  · simp [madeCells]
  · intro i h1 h2
    simp [madeCells, Value.cells, Nat.mod_one]
theorem set_next (ss : List ByteArray) (k m : Nat) (h : k < ss.length) (hm : ss.length - k = m + 1) :
    (strCells (ss.take k) ++ List.replicate (ss.length - k) (Value.string ⟨#[]⟩)).set k (Value.string ss[k]) = strCells (ss.take (k + 1)) ++ List.replicate (ss.length - (k + 1)) (Value.string ⟨#[]⟩) := by
  have hl : (strCells (ss.take k)).length = k := by simp [strCells]; omega
  rw [hm, show ss.length - (k + 1) = m by omega, List.set_append_right _ _ (by omega), hl, Nat.sub_self, List.replicate_succ, List.set_cons_zero,
    List.take_succ_eq_append_getElem h]
  unfold strCells
  rw [List.map_append, List.append_assoc]
  rfl

def ToPost (ss : List ByteArray) (w : World) (e : Ending) (w' : World) : Prop :=
  ∃ g, e = .returned (.slice (some ⟨g, 0, none⟩) ss.length ss.length) ∧ w'.ownsRow w.heap.size 9 1 (.slice (some ⟨g, 0, none⟩) ss.length ss.length) ss.length (strCells ss) ∧ Below w.heap.size w w'

set_option maxHeartbeats 1000000 in
theorem to_strs (A : Option Addr) (cap : Nat) (ss : List ByteArray) (w : World) (hn : ss.length ≤ 1048576) (hA : Lies w A (strCells ss)) :
    Calls Try.prog 61 #[.slice A ss.length cap] w (ToPost ss w) := by
  obtain ⟨i0, hi, hz0, hz1, hz2⟩ := info_parts Try.info9
  go_enter Try.func61, Try.ntmps61
  go_wp2_with (refine wpList_make_full _ rfl _ _ 22 rfl w.heap.size 9 i0 (.string ⟨#[]⟩) 1 Try.underlying22 hi hz0 hz1 _ _ _ _ ss.length rfl rfl rfl rfl (by rw [hz2]; omega) (by unfold maxLen; omega) (Nat.le_refl _) ?_; intro w1 hown hgrow; rw [made_strs] at hown)
  go_loopw [4] (fun i wr => ∃ k : Nat, k ≤ ss.length ∧ i = .int .i64 k ∧ wr.ownsRow w.heap.size 9 1 (.slice (some ⟨w.heap.size, 0, none⟩) ss.length ss.length) ss.length (strCells (ss.take k) ++ List.replicate (ss.length - k) (Value.string ⟨#[]⟩)) ∧ Below w.heap.size w wr) (fun i _ => ss.length - (intOf i).toNat)
  case atStart => exact ⟨0, Nat.zero_le _, rfl, by simpa [strCells] using hown, (Below.refl _ _).grown hgrow (Nat.le_refl _) (fun k e => by cases e)⟩
  case round =>
    obtain ⟨k, hk, rfl, ho, hb⟩ := hrel
    clear hown hgrow
    by_cases hlt : k < ss.length
    · obtain ⟨b, off, rfl, hlb, hck⟩ := (hA.below hb).str k hlt
      have hlen := ho.1
      have hcg : wr.cell? ⟨w.heap.size, k, none⟩ = some ((strCells (ss.take k) ++ List.replicate (ss.length - k) (Value.string ⟨#[]⟩))[k]'(by omega)) := by
        rw [ho.cellAt k (by omega)]
        exact List.getElem?_eq_getElem _
      have hfg := ho.frozenAt k
      obtain ⟨m, hm⟩ : ∃ m, ss.length - k = m + 1 := ⟨ss.length - k - 1, by omega⟩
      have hst := (ho.stored k (.string ss[k])).1
      have hsg := (ho.stored k (.string ss[k])).2
      rw [set_next ss k m hlt hm] at hst
      have B1 : Below w.heap.size w (wr.setCell ⟨w.heap.size, k, none⟩ (.string ss[k])) := hb.setCell (p := ⟨w.heap.size, k, none⟩) (Nat.le_refl _) _
      obtain ⟨y, hy⟩ : ∃ y, y = (strCells (ss.take k) ++ List.replicate (ss.length - k) (Value.string ⟨#[]⟩))[k]'(by omega) := ⟨_, rfl⟩
      rw [← hy] at hcg
      obtain ⟨x, hx⟩ : ∃ x, x = ss[k] := ⟨_, rfl⟩
      rw [← hx] at hck hst hsg B1
      clear hlen hm hy hx ho hb
      go_wp2
      go_roundw
      case rel => exact ⟨k + 1, by omega, by go_num, hst, B1⟩
      case measure => simp [intOf]; omega
    · have hke : k = ss.length := by omega
      subst hke
      rw [List.take_length, Nat.sub_self] at ho
      simp only [List.replicate_zero, List.append_nil] at ho
      go_wp2
      go_ret
      exact ⟨_, rfl, ho, hb⟩

set_option maxHeartbeats 1000000 in
theorem to_wait (n : Int) (t : ByteArray) (w : World) :
    Calls Try.prog 84 #[.agg #[.int .i64 n, .string t]] w fun e w' => e = .returned (.agg #[.int .i64 n, .string t]) ∧ Below w.heap.size w w' := by
  go_enter Try.func84, Try.ntmps84
  go_wp2
  exact bodyPost_ret (v := .agg #[.int .i64 n, .string t]) (by simp [results, Try.f84, go_sem]) rfl ⟨rfl, (by
    exact bel_new (bel_new (bel_new (Below.refl _ _) _) _) _)⟩

def wz : List Value := [.int .i64 0, .string ⟨#[]⟩]
def wzeros (n : Nat) : List Value := (List.replicate n wz).flatten
theorem wzeros_succ (n : Nat) : wzeros (n + 1) = wz ++ wzeros n := by simp [wzeros, List.replicate_succ]
theorem wzeros_at : ∀ (n k : Nat), k < n → (wzeros n)[k * 2]? = some (.int .i64 0) ∧ (wzeros n)[k * 2 + 1]? = some (.string ⟨#[]⟩)
  | n + 1, 0, _ => by rw [wzeros_succ]; exact ⟨rfl, rfl⟩
  | n + 1, k + 1, h => by
    have ih := wzeros_at n k (by omega)
    rw [wzeros_succ]
    constructor
    · rw [List.getElem?_append_right (by show 2 ≤ _; omega)]
      show (wzeros n)[(k + 1) * 2 - 2]? = _
      rw [show (k + 1) * 2 - 2 = k * 2 by omega]
      exact ih.1
    · rw [List.getElem?_append_right (by show 2 ≤ _; omega)]
      show (wzeros n)[(k + 1) * 2 + 1 - 2]? = _
      rw [show (k + 1) * 2 + 1 - 2 = k * 2 + 1 by omega]
      exact ih.2
theorem wzeros_len (n : Nat) : (wzeros n).length = n * 2 := by
  induction n with
  | zero => rfl
  | succ n ih =>
    rw [wzeros_succ, List.length_append, ih]
    show 2 + _ = _
    omega
theorem made_waits (n : Nat) : (madeCells (Value.cells (.agg #[.int .i64 0, .string ⟨#[]⟩])) (n * 2)).toList = wzeros n := by
  apply List.ext_getElem?
  intro i
  by_cases h : i < n * 2
  · have hl : i < (madeCells (Value.cells (.agg #[.int .i64 0, .string ⟨#[]⟩])) (n * 2)).toList.length := by simp [madeCells]; exact h
    rw [List.getElem?_eq_getElem hl]
    obtain ⟨q, hq⟩ : ∃ q, q = i / 2 := ⟨_, rfl⟩
    have hz := wzeros_at n q (by omega)
    rcases (show i = q * 2 ∨ i = q * 2 + 1 by omega) with rfl | rfl
    · rw [hz.1]
      simp [madeCells, Value.cells]
    · rw [hz.2]
      simp [madeCells, Value.cells]
  · rw [List.getElem?_eq_none (by simp [madeCells]; omega), List.getElem?_eq_none (by rw [wzeros_len]; omega)]
theorem set_two (a b : Value) (L R : List Value) (x y : Value) (k : Nat) (hl : L.length = k) : ((L ++ a :: b :: R).set k x).set (k + 1) y = L ++ x :: y :: R := by
  subst hl
  rw [List.set_append_right _ _ (Nat.le_refl _), Nat.sub_self, List.set_cons_zero, List.set_append_right _ _ (Nat.le_succ _), show L.length + 1 - L.length = 1 by omega]
  rfl
theorem wt_more (ws : List Wt) (k : Nat) (h : k < ws.length) : wtCells (ws.take (k + 1)) = wtCells (ws.take k) ++ ws[k].cells := by
  rw [List.take_succ_eq_append_getElem h, wtCells_app]
  simp [wtCells]
theorem own_set2 {W : World} {base g n cap k : Nat} {ws : List Wt} {R : List Value} (h : W.ownsRow base 58 2 (.slice (some ⟨g, 0, none⟩) n cap) n (wtCells (ws.take k) ++ wz ++ R)) (hk : k < ws.length) :
    ((W.setCell ⟨g, k * 2, none⟩ (.int .i64 ws[k].num)).setCell ⟨g, k * 2 + 1, none⟩ (.string ws[k].text)).ownsRow base 58 2 (.slice (some ⟨g, 0, none⟩) n cap) n (wtCells (ws.take (k + 1)) ++ R) := by
  have h6 := (((h.stored (k * 2) (.int .i64 ws[k].num)).1).stored (k * 2 + 1) (.string ws[k].text)).1
  have hl : (wtCells (ws.take k)).length = k * 2 := by rw [wtCells_len, List.length_take]; omega
  rw [show wtCells (ws.take k) ++ wz ++ R = wtCells (ws.take k) ++ (.int .i64 0) :: (.string ⟨#[]⟩) :: R by simp [wz], set_two _ _ _ R _ _ (k * 2) hl] at h6
  rw [wt_more ws k hk]
  simpa [Wt.cells] using h6
theorem own_cells2 {W : World} {base g n cap k : Nat} {ws : List Wt} {R : List Value} (h : W.ownsRow base 58 2 (.slice (some ⟨g, 0, none⟩) n cap) n (wtCells (ws.take k) ++ wz ++ R)) (hk : k < ws.length) (hn : k < n) :
    W.cell? ⟨g, k * 2, none⟩ = some (.int .i64 0) ∧ W.cell? ⟨g, k * 2 + 1, none⟩ = some (.string ⟨#[]⟩) := by
  have hl : (wtCells (ws.take k)).length = k * 2 := by rw [wtCells_len, List.length_take]; omega
  constructor
  · rw [h.cellAt (k * 2) (by omega), List.append_assoc, List.getElem?_append_right (by omega), hl, Nat.sub_self]
    rfl
  · rw [h.cellAt (k * 2 + 1) (by omega), List.append_assoc, List.getElem?_append_right (by omega), hl, show k * 2 + 1 - k * 2 = 1 by omega]
    rfl

def ToPostW (ws : List Wt) (w : World) (e : Ending) (w' : World) : Prop :=
  ∃ g, e = .returned (.slice (some ⟨g, 0, none⟩) ws.length ws.length) ∧ w'.ownsRow w.heap.size 58 2 (.slice (some ⟨g, 0, none⟩) ws.length ws.length) ws.length (wtCells ws) ∧ Below w.heap.size w w'

set_option maxHeartbeats 1000000 in
theorem to_waits (A : Option Addr) (cap : Nat) (ws : List Wt) (w : World) (hn : ws.length ≤ 1048576) (hA : Lies w A (wtCells ws)) :
    Calls Try.prog 62 #[.slice A ws.length cap] w (ToPostW ws w) := by
  obtain ⟨i0, hi, hz0, hz1, hz2⟩ := info_parts Try.info58
  go_enter Try.func62, Try.ntmps62
  go_wp2_with (refine wpList_make_full _ rfl _ _ 23 rfl w.heap.size 58 i0 (.agg #[.int .i64 0, .string ⟨#[]⟩]) 2 Try.underlying23 hi hz0 hz1 _ _ _ _ ws.length rfl rfl rfl rfl (by rw [hz2]; omega) (by unfold maxLen; omega) (Nat.le_refl _) ?_; intro w1 hown hgrow; rw [made_waits] at hown)
  go_loopw [4] (fun i wr => ∃ k : Nat, k ≤ ws.length ∧ i = .int .i64 k ∧ wr.ownsRow w.heap.size 58 2 (.slice (some ⟨w.heap.size, 0, none⟩) ws.length ws.length) ws.length (wtCells (ws.take k) ++ wzeros (ws.length - k)) ∧ Below w.heap.size w wr) (fun i _ => ws.length - (intOf i).toNat)
  case atStart => exact ⟨0, Nat.zero_le _, rfl, hown, (Below.refl _ _).grown hgrow (Nat.le_refl _) (fun k e => by cases e)⟩
  case round =>
    obtain ⟨k, hk, rfl, ho, hb⟩ := hrel
    clear hown hgrow
    by_cases hlt : k < ws.length
    · obtain ⟨b, off, rfl, hlb, y0, y1⟩ := (hA.below hb).wt k hlt
      obtain ⟨m, hm⟩ : ∃ m, ws.length - k = m + 1 := ⟨ws.length - k - 1, by omega⟩
      have hm1 : ws.length - (k + 1) = m := by omega
      rw [hm, wzeros_succ, ← List.append_assoc] at ho
      have hT := fun W => to_wait ws[k].num ws[k].text W
      obtain ⟨n, hn'⟩ : ∃ n, n = ws[k].num := ⟨_, rfl⟩
      obtain ⟨t, ht'⟩ : ∃ t, t = ws[k].text := ⟨_, rfl⟩
      rw [← hn'] at y0 hT
      rw [← ht'] at y1 hT
      have HM := Lib.hid hm1
      have HN := Lib.hid hn'
      have HT := Lib.hid ht'
      clear hm hm1 hn' ht'
      go_wp2_with (go_at_call 84; refine (hT _).mono ?_; rintro r w2 ⟨rfl, hb2⟩; have ho2 := own_bel ho hb2; obtain ⟨z0, z1⟩ := own_cells2 ho2 hlt hlt; have f0 := ho2.frozenAt (k * 2); have f1 := ho2.frozenAt (k * 2 + 1))
      have B5 := ((bel_then hb hb2).setCell (p := ⟨w.heap.size, k * 2, none⟩) (Nat.le_refl _) (.int .i64 n)).setCell (p := ⟨w.heap.size, k * 2 + 1, none⟩) (Nat.le_refl _) (.string t)
      go_roundw
      case rel => exact ⟨k + 1, by omega, by go_num, by rw [HM.out, HN.out, HT.out]; exact own_set2 ho2 hlt, B5⟩
      case measure => simp [intOf]; omega
    · have hke : k = ws.length := by omega
      subst hke
      rw [List.take_length, Nat.sub_self] at ho
      rw [show wzeros 0 = [] from rfl, List.append_nil] at ho
      go_wp2
      go_ret
      exact ⟨_, rfl, ho, hb⟩

/-- The disk d lies behind two slice addresses. -/
def DkAt (w : World) (A B : Option Addr) (d : Dk) : Prop := Lies w A (strCells d.cells) ∧ Lies w B (wtCells d.waits)
theorem DkAt.below {w w' : World} {A B : Option Addr} {d : Dk} (h : DkAt w A B d) (hb : Below w.heap.size w w') : DkAt w' A B d := ⟨h.1.below hb, h.2.below hb⟩
/-- The disk d lies in memory of the call's own. -/
def DkOwn (w : World) (base : Nat) (v : Value) (d : Dk) : Prop :=
  ∃ (t : TypeId) (u1 u2 : Value), v = .agg #[u1, u2, .bool d.gone] ∧ (t = 9 ∨ t = 60) ∧ w.ownsRow base t 1 u1 d.cells.length (strCells d.cells) ∧ w.ownsRow base 58 2 u2 d.waits.length (wtCells d.waits)
theorem DkOwn.below {w w' : World} {base : Nat} {v : Value} {d : Dk} (h : DkOwn w base v d) (hb : Below w.heap.size w w') : DkOwn w' base v d := by
  obtain ⟨t, u1, u2, e, ht, h1, h2⟩ := h
  exact ⟨t, u1, u2, e, ht, own_bel h1 hb, own_bel h2 hb⟩
theorem own_base {w : World} {base base' : Nat} {t : TypeId} {sz n : Nat} {v : Value} {xs : List Value} (h : w.ownsRow base t sz v n xs) (hb : base' ≤ base) : w.ownsRow base' t sz v n xs := by
  refine ⟨h.1, ?_⟩
  rcases h.2 with h | ⟨g, cap, cur, rfl, hg, r⟩
  · exact .inl h
  · exact .inr ⟨g, cap, cur, rfl, Nat.le_trans hb hg, r⟩
theorem DkOwn.base {w : World} {base base' : Nat} {v : Value} {d : Dk} (h : DkOwn w base v d) (hb : base' ≤ base) : DkOwn w base' v d := by
  obtain ⟨t, u1, u2, e, ht, h1, h2⟩ := h
  exact ⟨t, u1, u2, e, ht, own_base h1 hb, own_base h2 hb⟩
theorem DkOwn.at_ {w : World} {base : Nat} {v : Value} {d : Dk} (h : DkOwn w base v d) : ∃ A c B e, v = .agg #[.slice A d.cells.length c, .slice B d.waits.length e, .bool d.gone] ∧ DkAt w A B d := by
  obtain ⟨t, u1, u2, rfl, ht, h1, h2⟩ := h
  obtain ⟨A, c, rfl, l1⟩ := own_lies h1
  obtain ⟨B, e, rfl, l2⟩ := own_lies h2
  exact ⟨A, c, B, e, rfl, l1, l2⟩

def DkPost (d : Dk) (w : World) (e : Ending) (w' : World) : Prop := ∃ v, e = .returned v ∧ DkOwn w' w.heap.size v d ∧ Below w.heap.size w w'
end Go.Proofs.Ytadgknkheachaaa
